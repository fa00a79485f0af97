/-
 A slice of elements of any number of cells that lies somewhere in a block, a pool that lies in a block of its own, what an append makes of such a slice, and what a call on a pool leaves alone: definitions and laws. No condition but the bounds that each theorem names.
-/
import Derived.Test.YtcoimipgilkmbaaGreatDoorTl
import Derived.Test.YtcoimipgilkmbaaGreatDoorNax
import Derived.Deep.AppendSrc
import Derived.RangeFuncBox
import Derived.BigQuiet
import Derived.Maps.AppendAt
namespace Go.Proofs.YtcoimipgilkmbaaGreatDoor.tt
set_option linter.unusedVariables false
set_option linter.unusedSimpArgs false
set_option maxRecDepth 1000000
set_option maxHeartbeats 16000000
open Go Go.ChangeShapes Go.WideShapes Go.ChangeAt Go.RowKit
def Sl (w:World) (e:TypeId) (s:Nat) (v:Value) (n:Nat) (xs:List Value):Prop:=
 (v = .slice none 0 0∧n=0∧xs=[]) ∨ ∃ g off cap cur,v = .slice (some ⟨g,off,none⟩) n cap∧w.heap[g]?=some (.cells cur e (0,0))∧xs.length=n * s∧n ≤ cap∧cap ≤ maxLen∧off + cap * s ≤ cur.size∧∀ (k:Nat) x,xs[k]?=some x→cur[off + k]?=some x
section
variable {w:World} {e:TypeId} {s n:Nat} {v:Value} {xs:List Value}
theorem Sl.nil (w:World) (e:TypeId) (s:Nat):Sl w e s (.slice none 0 0) 0 []:= .inl ⟨rfl,rfl,rfl⟩
theorem Sl.of_block {w':World} (h:Sl w e s v n xs) (hk:∀ g,v.ownBlock=some g→w'.heap[g]?=w.heap[g]?):Sl w' e s v n xs:=by
 rcases h with h | ⟨g,off,cap,cur,rfl,hg,h1,h2,h3,h4,h5⟩
 ·exact .inl h
 ·exact .inr ⟨g,off,cap,cur,rfl,(hk g rfl).trans hg,h1,h2,h3,h4,h5⟩
theorem Sl.lt (h:Sl w e s v n xs) (g:Nat) (hg:v.ownBlock=some g):g < w.heap.size:=by
 rcases h with ⟨rfl,_⟩ | ⟨g',off,cap,cur,rfl,hb,_⟩
 ·simp [Value.ownBlock] at hg
 ·simp [Value.ownBlock] at hg;subst hg
  exact (Array.getElem?_eq_some_iff.1 hb).1
theorem Sl.grown {w':World} (h:Sl w e s v n xs) (hg:w.grownBy w' none):Sl w' e s v n xs:=h.of_block fun g hk=>hg.block g (h.lt g hk) (by simp)
theorem Sl.type (h:Sl w e s v n xs) (g:Nat) (hg:v.ownBlock=some g):∃ cur,w.heap[g]?=some (.cells cur e (0,0)):=by
 rcases h with ⟨rfl,_⟩ | ⟨g',off,cap,cur,rfl,hb,_⟩
 ·simp [Value.ownBlock] at hg
 ·simp [Value.ownBlock] at hg;subst hg;exact ⟨_,hb⟩
theorem Sl.form (h:Sl w e s v n xs):∃ ad cap,v = .slice ad n cap:=by
 rcases h with ⟨rfl,rfl,rfl⟩ | ⟨g,off,cap,cur,rfl,_⟩
 ·exact ⟨none,0,rfl⟩
 ·exact ⟨_,cap,rfl⟩
theorem Sl.len (h:Sl w e s v n xs):xs.length=n * s:=by
 rcases h with ⟨rfl,rfl,rfl⟩ | ⟨g,off,cap,cur,rfl,_,h1,_⟩
 ·simp
 ·exact h1
theorem Sl.cellAt {ad:Option Addr} {m cap:Nat} (h:Sl w e s (.slice ad m cap) n xs) (k:Nat) (x:Value) (hk:xs[k]?=some x) :
  ∃ g off,ad=some ⟨g,off,none⟩∧m=n∧∀ (j:Nat) u,xs[j]?=some u→w.cell? ⟨g,off + j,none⟩=some u:=by
 rcases h with ⟨_,_,rfl⟩ | ⟨g,off,cap',cur,hv,hb,h1,h2,h3,h4,h5⟩
 ·simp at hk
 ·cases hv
  exact ⟨g,off,rfl,rfl,fun j u hu=>by simp [World.cell?,hb,h5 j u hu]⟩
end
theorem heap_setCells (b:Nat) (e:TypeId):∀ (vs:List Value) (o:Nat) (w:World) (cur:Array Value),w.heap[b]?=some (.cells cur e (0,0))→o + vs.length ≤ cur.size →
  ∃ cur',(w.setCells b o vs).heap[b]?=some (.cells cur' e (0,0))∧cur'.size=cur.size∧(∀ j,(j < o ∨ o + vs.length ≤ j)→cur'[j]?=cur[j]?)∧(∀ j u,vs[j]?=some u→cur'[o + j]?=some u)
 | [],o,w,cur,h,hs=>⟨cur,h,rfl,fun _ _=>rfl,fun j u hu=>by simp at hu⟩
 | v :: r,o,w,cur,h,hs=>by
  have h':(w.setCell ⟨b,o,none⟩ v).heap[b]?=some (.cells (cur.set! o v) e (0,0)):=by
   obtain ⟨hlt,hk⟩:=Array.getElem?_eq_some_iff.1 h
   show (w.heap.modify b _)[b]?=_
   rw [Array.getElem?_eq_getElem (by rw [Array.size_modify];exact hlt),Array.getElem_modify_self,hk]
   simp [Array.set!_eq_setIfInBounds]
  obtain ⟨cur',g1,g2,g3,g4⟩:=heap_setCells b e r (o + 1) _ _ h' (by simp at hs ⊢;omega)
  refine ⟨cur',g1,by rw [g2];simp,fun j hj=>?_,fun j u hu=>?_⟩
  ·rw [g3 j (by simp at hj ⊢;omega),Array.set!_eq_setIfInBounds,Array.getElem?_setIfInBounds,if_neg (by simp at hj;omega)]
  ·cases j with
   | zero=>
    simp at hu;subst hu
    rw [Nat.add_zero,g3 o (by omega),Array.set!_eq_setIfInBounds,Array.getElem?_setIfInBounds,if_pos rfl,if_pos (by simp at hs;omega)]
   | succ j=>
    have:=g4 j u (by simpa using hu)
    rw [show o + (j + 1)=o + 1 + j by omega];exact this
def Next (w w':World) (v v':Value):Prop:=v'.ownBlock=v.ownBlock ∨ ∀ k,v'.ownBlock=some k→w.heap.size ≤ k
theorem Next.refl (w w':World) (v:Value):Next w w' v v:= .inl rfl
theorem Next.ne {w w':World} {v v':Value} (h:Next w w' v v') {k:Nat} (hk:k < w.heap.size) (hne:some k ≠ v.ownBlock):some k ≠ v'.ownBlock:=by
 rcases h with h | h
 ·rw [h];exact hne
 ·intro e;have:=h k e.symm;omega
theorem Next.ge {w w':World} {v v':Value} (h:Next w w' v v') {B:Nat} (hB:B ≤ w.heap.size) (hv:∀ k,v.ownBlock=some k→B ≤ k):∀ k,v'.ownBlock=some k→B ≤ k:=fun k hk=>by
 rcases h with h | h
 ·exact hv k (h ▸ hk)
 ·exact Nat.le_trans hB (h k hk)
section
variable {P:Program} (w:World)
theorem run_append_sl (t tx ty e:TypeId) (s:Nat) (i:TypeInfo) (z:Value) (bytes:Nat) (ht:P.underlying t=some (.slice e)) (hi:P.info? e=some i) (hz:i.zero=some z) (hsize:i.size=s) (hby:i.bytes=bytes) (hzs:z.cells.size=s)
  (v:Value) (m:Nat) (xs:List Value) (hsl:Sl w e s v m xs) (x:Value) (n:Nat) (news:List Value) (hs:Src P s tx x n news w) (h63:m + n ≤ maxLen) (hbytes:(m + n) * bytes ≤ 140737488355328) :
  ∃ v' w',(Builtin.append_ #[t,tx] ty #[v,x]).run P w = .ok v' w'∧Sl w' e s v' (m + n) (xs ++ news)∧w.grownBy w' v.ownBlock∧Next w w' v v':=by
 subst hby
 have hxl:=hsl.len
 have hnl:news.length=n * s:=hs.newsLen
 have hs':Src P i.size tx x n news w:=by rw [hsize];exact hs
 have hsmall:m + n ≤ 9223372036854775807:=by simp only [maxLen] at h63;omega
 have grow:∀ (base:Option Addr) (cap:Nat),v = .slice base m cap→(Builtin.firstCells i.size m v).run P w.drew = .ok xs.toArray w.drew→cap < m + n →
   ∃ v' w',(Builtin.append_ #[t,tx] ty #[v,x]).run P w = .ok v' w'∧Sl w' e s v' (m + n) (xs ++ news)∧w.grownBy w' v.ownBlock∧Next w w' v v':=by
  intro base cap hv hold hg
  subst hv
  have hr:=run_append_grow_src (P:=P) w t tx ty e i z ht hi hz base m cap xs hold x n news hs' hg (by omega) (growslice_fits hg hbytes)
  have hge:=grownCap_ge w (m + n) cap e
  have hcm:=grownCap_le_maxLen w (m + n) cap e h63
  refine ⟨_,_,hr,.inr ⟨w.heap.size,0,_,_,rfl,heap_alloc_new w.drew _,by rw [List.length_append,hnl,hxl,Nat.add_mul],hge,hcm,?_,fun k u hu=>?_⟩,⟨rfl,rfl,rfl,by simp,fun k hk _=>Below.heap_alloc w.drew _ k hk⟩,.inr fun k hk=>?_⟩
  ·simp only [Array.size_append,List.size_toArray,List.length_append,size_zeroCells,hzs,hnl,hxl,Nat.zero_add]
   rw [← Nat.add_mul,← Nat.add_mul]
   exact Nat.mul_le_mul_right _ (by omega)
  ·obtain ⟨hlt,hu'⟩:=List.getElem?_eq_some_iff.1 hu
   rw [Array.getElem?_append_left (by simpa using hlt)]
   simpa using hu
  ·simp [Value.ownBlock] at hk;omega
 rcases hsl with ⟨rfl,rfl,rfl⟩ | ⟨g,off,cap,cur,rfl,hb,h1,h2,h3,h4,h5⟩
 ·by_cases hn:n=0
  ·subst hn
   obtain rfl:news=[]:=List.eq_nil_of_length_eq_zero (by rw [hnl,Nat.zero_mul])
   refine ⟨.slice none 0 0,w,?_,Sl.nil w e s,⟨rfl,rfl,rfl,Nat.le_refl _,fun _ _ _=>rfl⟩,.inl rfl⟩
   have hc:=hs'.cells
   rcases hs'.kind with ⟨e',hk⟩ | hk <;> simp [Builtin.append_,run_underlying ht,run_underlying hk,sizeOf,typeInfo,hi,hs'.len,hc]
  ·exact grow none 0 rfl (run_firstCells_none w.drew i.size 0 0 0) (by omega)
 ·by_cases hroom:m + n ≤ cap
  ·have hms:(m + n) * s ≤ cap * s:=Nat.mul_le_mul_right _ hroom
   rw [Nat.add_mul] at hms
   have hfit:off + m * s + news.length ≤ cur.size:=by omega
   have hr:=run_append_room_src (P:=P) w t tx ty e i ht hi g off m cap x n news hs' hroom
    (fun j hj=>by rw [hsize];simp [World.cell?,hb];omega) (fun j hj=>by simp [World.frozen?,hb])
   rw [hsize] at hr
   obtain ⟨cur',g1,g2,g3,g4⟩:=heap_setCells g e news (off + m * s) w cur hb hfit
   obtain ⟨r1,r2,r3,r4⟩:=setCells_rest g news (off + m * s) w
   refine ⟨_,_,hr,.inr ⟨g,off,cap,cur',rfl,g1,by rw [List.length_append,hnl,hxl,Nat.add_mul],hroom,h3,by omega,fun k u hu=>?_⟩,⟨r1,r2,r3,by omega,fun k _ hk=>heap_setCells_other g k (fun e=>hk (by simp [Value.ownBlock,e])) _ _ _⟩,.inl rfl⟩
   rw [List.getElem?_append] at hu
   split at hu
   ·rename_i hlt
    rw [g3 _ (by omega)];exact h5 k u hu
   ·rename_i hge
    have:=g4 (k - xs.length) u hu
    rw [show off + k=off + m * s + (k - xs.length) by omega];exact this
  ·refine grow _ cap rfl ?_ (by omega)
   refine run_firstCells_some w.drew i.size m ⟨g,off,none⟩ m cap xs (by rw [hsize];exact hxl) fun j u hu=>?_
   rw [add_lit,World.cell?_drew]
   simp [World.cell?,hb,h5 j u hu]
end
theorem Sl.src {P:Program} {w:World} {e:TypeId} {s n:Nat} {v:Value} {xs:List Value} (h:Sl w e s v n xs) {tx e':TypeId} (hk:P.underlying tx=some (.slice e')) (h1:∀ u ∈ xs,u.oneCell'=true):Src P s tx v n xs w:=by
 rcases h with ⟨rfl,rfl,rfl⟩ | ⟨g,off,cap,cur,rfl,hb,hl,_,_,_,h5⟩
 ·obtain ⟨a1,a2,a3,a4,a5,a6⟩:=Src.ofNil (size:=s) w hk 0
  exact ⟨a1,a2,a3,a4,a5,a6⟩
 ·refine Src.ofSlice w hk ⟨g,off,none⟩ n cap xs hl (fun j u hu=>?_) h1
  rw [add_lit];simp [World.cell?,hb,h5 j u hu]
section
variable {P:Program} {w:World} {ops:Array Oper} {rest:List Oper} {a:Act} {Q:Exit→Act→World→Prop} {dst:Option Tmp} {ty:TypeId} {pos:String} {after:Array Edge}
theorem append_sl (t e:TypeId) (s:Nat) (i:TypeInfo) (z:Value) (bytes:Nat) (x y:Operand) (ht:P.underlying t=some (.slice e)) (hi:P.info? e=some i) (hz:i.zero=some z) (hsize:i.size=s) (hby:i.bytes=bytes) (hzs:z.cells.size=s)
  (v:Value) (m:Nat) (xs:List Value) (hsv:a.eval x=v) (hsl:Sl w e s v m xs) (u:Value) (n:Nat) (news:List Value) (hsu:a.eval y=u) (hs:Src P s t u n news w) (h63:m + n ≤ maxLen) (hbytes:(m + n) * bytes ≤ 140737488355328)
  (h:∀ v' w',Sl w' e s v' (m + n) (xs ++ news)→w.grownBy w' v.ownBlock→Next w w' v v'→wpList P ops Q rest (a.put dst v') w') :
  wpList P ops Q (⟨dst,.call { callee:= .builtin .append,args:=#[x,y],argTypes:=#[t,t] },ty,pos,after,none⟩ :: rest) a w:=
 wpList_plain rfl fun K hK=>by
  obtain ⟨v',w',hr,r1,r2,r3⟩:=run_append_sl (P:=P) w t t ty e s i z bytes ht hi hz hsize hby hzs v m xs hsl u n news hs h63 hbytes
  unfold Oper.wp execOp
  simp only [resolve,invoke,builtin,Sem.run_bind,Sem.run_pure,Result.andThen_ok,List.map_toArray,List.map_cons,List.map_nil,hsv,hsu,hr]
  exact hK _ _ (h v' w' r1 r2 r3)
theorem step_append_sl {o:Oper} {K:Act→World→Prop} {E:Prop} (hgd:o.guard=none) (x y:Operand) (t tx:TypeId)
  (ho:o.op = .call { callee:= .builtin .append,args:=#[x,y],argTypes:=#[t,tx] }) (e:TypeId) (s:Nat) (i:TypeInfo) (z:Value) (bytes:Nat) (ht:P.underlying t=some (.slice e)) (hi:P.info? e=some i) (hz:i.zero=some z) (hsize:i.size=s) (hby:i.bytes=bytes) (hzs:z.cells.size=s)
  (v:Value) (m:Nat) (xs:List Value) (hsv:a.eval x=v) (hsl:Sl w e s v m xs) (n:Nat) (news:List Value) (hs:Src P s tx (a.eval y) n news w) (h63:m + n ≤ maxLen) (hbytes:(m + n) * bytes ≤ 140737488355328)
  (h:∀ v' w',Sl w' e s v' (m + n) (xs ++ news)→w.grownBy w' v.ownBlock→Next w w' v v'→K (a.put o.dst v') w'):if Region.wanted o (yielded ops a.tmps)=true then Oper.wp P o a w K Q else E:=by
 have hw:Region.wanted o (yielded ops a.tmps)=true:=by simp [Region.wanted,hgd]
 rw [if_pos hw]
 obtain ⟨v',w',hr,r1,r2,r3⟩:=run_append_sl (P:=P) w t tx o.type e s i z bytes ht hi hz hsize hby hzs v m xs hsl (a.eval y) n news hs h63 hbytes
 unfold Oper.wp execOp
 simp only [ho,resolve,invoke,builtin,Sem.run_bind,Sem.run_pure,Result.andThen_ok,List.map_toArray,List.map_cons,List.map_nil,hsv,hr]
 exact h v' w' r1 r2 r3
end
theorem tail_sl {P:Program} {t e e':TypeId} {s:Nat} {w:World} {g off n cap:Nat} {xs:List Value} (hsl:Sl w e s (.slice (some ⟨g,off,none⟩) n cap) n xs) (i:Nat) (hi:i ≤ n) (hk:P.underlying t=some (.slice e')) (h1:∀ u ∈ xs,u.oneCell'=true) :
  ∃ A,(if cap=i then (some ⟨g,off,none⟩:Option Addr) else some ⟨g,off + i * s,none⟩)=some A∧Src P s t (.slice (some A) (n - i) (cap - i)) (n - i) (xs.drop (i * s)) w∧Sl w e s (.slice (some A) (n - i) (cap - i)) (n - i) (xs.drop (i * s))∧A.block=g:=by
 rcases hsl with ⟨h,_⟩ | ⟨g',off',cap',cur,h,hb,hl,h2,h3,h4,h5⟩
 ·cases h
 ·cases h
  by_cases hc:cap=i
  ·rw [if_pos hc]
   obtain rfl:n=i:=by omega
   have h0:xs.drop (n * s)=[]:=List.drop_of_length_le (by omega)
   have h00:n - n=0:=by omega
   rw [h0,h00]
   exact ⟨_,rfl,Src.ofSlice w hk _ 0 _ [] (by simp) (fun j u hu=>by simp at hu) (by simp),.inr ⟨g,off,_,cur,rfl,hb,by simp,by omega,by omega,by
    have:(cap - n) * s ≤ cap * s:=Nat.mul_le_mul_right _ (by omega)
    omega,fun k u hu=>by simp at hu⟩,rfl⟩
  ·rw [if_neg hc]
   have hd:(xs.drop (i * s)).length=(n - i) * s:=by rw [List.length_drop,hl,Nat.sub_mul]
   have hcell:∀ (k:Nat) u,(xs.drop (i * s))[k]?=some u→cur[off + i * s + k]?=some u:=fun k u hu=>by
    rw [List.getElem?_drop] at hu
    rw [Nat.add_assoc];exact h5 _ _ hu
   have hcs:i * s + (cap - i) * s=cap * s:=by rw [← Nat.add_mul];congr 1;omega
   refine ⟨_,rfl,Src.ofSlice w hk _ _ _ _ hd (fun j u hu=>?_) (fun u hu=>h1 u (List.mem_of_mem_drop hu)),.inr ⟨g,off + i * s,_,cur,rfl,hb,hd,by omega,by omega,by omega,hcell⟩,rfl⟩
   rw [add_lit];simp [World.cell?,hb,hcell j u hu]
theorem head_sl {w:World} {e:TypeId} {s g off n cap:Nat} {xs:List Value} (hsl:Sl w e s (.slice (some ⟨g,off,none⟩) n cap) n xs) (i:Nat) (hi:i ≤ n) (c:Nat) (hc:i ≤ c) (hcc:c ≤ cap):Sl w e s (.slice (some ⟨g,off,none⟩) i c) i (xs.take (i * s)):=by
 rcases hsl with ⟨h,_⟩ | ⟨g',off',cap',cur,h,hb,hl,h2,h3,h4,h5⟩
 ·cases h
 ·cases h
  have his:i * s ≤ n * s:=Nat.mul_le_mul_right _ hi
  have hcs:c * s ≤ cap * s:=Nat.mul_le_mul_right _ hcc
  have hd:(xs.take (i * s)).length=i * s:=by rw [List.length_take];omega
  refine .inr ⟨g,off,c,cur,rfl,hb,hd,hc,by omega,by omega,fun k u hu=>?_⟩
  rw [List.getElem?_take] at hu
  split at hu
  ·exact h5 k u hu
  ·cases hu
structure Pool (w:World) (T e:TypeId) (s:Nat) (b:Nat) (v:Value) (room n:Nat) (xs:List Value):Prop where
 blk:w.heap[b]?=some (.cells #[v,.int .i64 (room:Int)] T (0,0))
 sl:Sl w e s v n xs
 own:some b ≠ v.ownBlock
section
variable {w:World} {T e:TypeId} {s b room n:Nat} {v:Value} {xs:List Value}
theorem Pool.lt (h:Pool w T e s b v room n xs):b < w.heap.size:=(Array.getElem?_eq_some_iff.1 h.blk).1
theorem Pool.cell0 (h:Pool w T e s b v room n xs):w.cell? ⟨b,0,none⟩=some v:=by simp [World.cell?,h.blk]
theorem Pool.cell1 (h:Pool w T e s b v room n xs):w.cell? ⟨b,1,none⟩=some (.int .i64 (room:Int)):=by simp [World.cell?,h.blk]
theorem Pool.frozen (h:Pool w T e s b v room n xs) (j:Nat):w.frozen? ⟨b,j,none⟩=false:=by simp [World.frozen?,h.blk]
theorem Pool.of_block {w':World} (h:Pool w T e s b v room n xs) (hb:w'.heap[b]?=w.heap[b]?) (hk:∀ g,v.ownBlock=some g→w'.heap[g]?=w.heap[g]?):Pool w' T e s b v room n xs:=
 ⟨hb.trans h.blk,h.sl.of_block hk,h.own⟩
theorem Pool.grown {w':World} (h:Pool w T e s b v room n xs) (hg:w.grownBy w' none):Pool w' T e s b v room n xs:=
 h.of_block (hg.block b h.lt (by simp)) (fun g hk=>hg.block g (h.sl.lt g hk) (by simp))
theorem Pool.drewN (h:Pool w T e s b v room n xs) (k:Nat):Pool (w.drewN k) T e s b v room n xs:=
 h.of_block (by rw [World.heap_drewN]) (fun _ _=>by rw [World.heap_drewN])
end
structure Turn (w w':World) (b:Nat) (v v':Value):Prop where
 os:w'.os=w.os
 tape:w'.tape=w.tape
 output:w'.output=w.output
 size:w.heap.size ≤ w'.heap.size
 block:∀ k,k < w.heap.size→k ≠ b→some k ≠ v.ownBlock→w'.heap[k]?=w.heap[k]?
 next:Next w w' v v'
section
variable {w w':World} {b:Nat} {v v':Value}
theorem Turn.refl (w:World) (b:Nat) (v:Value):Turn w w b v v:=⟨rfl,rfl,rfl,Nat.le_refl _,fun _ _ _ _=>rfl,.inl rfl⟩
theorem Turn.of_grown (b:Nat) (v:Value) (h:w.grownBy w' none):Turn w w' b v v:=⟨h.os,h.tape,h.output,h.size,fun k hk _ _=>h.block k hk (by simp),.inl rfl⟩
theorem Turn.cell (h:Turn w w' b v v') {a:Addr} {u:Value} (hc:w.cell? a=some u) (hb:a.block ≠ b) (hv:some a.block ≠ v.ownBlock):w'.cell? a=some u:=
 (World.cell?_of_block (h.block a.block (World.block_lt_of_cell? w a hc) hb hv)).trans hc
theorem Turn.frozen (h:Turn w w' b v v') {a:Addr} (hl:a.block < w.heap.size) (hb:a.block ≠ b) (hv:some a.block ≠ v.ownBlock):w'.frozen? a=w.frozen? a:=
 World.frozen?_of_block (h.block a.block hl hb hv)
theorem Turn.sl (h:Turn w w' b v v') {e:TypeId} {s n:Nat} {u:Value} {xs:List Value} (hs:Sl w e s u n xs) (hb:some b ≠ u.ownBlock) (hv:u.ownBlock=none ∨ u.ownBlock ≠ v.ownBlock):Sl w' e s u n xs:=
 hs.of_block fun g hg=>h.block g (hs.lt g hg) (fun e=>hb (by rw [hg,e])) (fun e=>by
  rcases hv with hv | hv
  ·rw [hv] at hg;cases hg
  ·exact hv (hg.trans e))
theorem Turn.trans {a b c:World} {p:Nat} {v v' v'':Value} (h:Turn a b p v v') (k:Turn b c p v' v''):Turn a c p v v'':=
 ⟨k.os.trans h.os,k.tape.trans h.tape,k.output.trans h.output,Nat.le_trans h.size k.size,fun i hi hp hv=>(k.block i (Nat.lt_of_lt_of_le hi h.size) hp (h.next.ne hi hv)).trans (h.block i hi hp hv),by
  rcases k.next with k1 | k1
  ·rcases h.next with h1 | h1
   ·exact .inl (k1.trans h1)
   ·exact .inr fun i hi=>h1 i (k1 ▸ hi)
  ·exact .inr fun i hi=>Nat.le_trans h.size (k1 i hi)⟩
theorem Turn.drewN {n:Nat} (h:Turn (w.drewN n) w' b v v'):Turn w w' b v v':=
 ⟨h.os,h.tape,h.output,by have:=h.size;rwa [World.heap_drewN] at this,fun k hk h1 h2=>by have:=h.block k (by rw [World.heap_drewN];exact hk) h1 h2;rwa [World.heap_drewN] at this,by
  have:=h.next;unfold Next at this ⊢;rwa [World.heap_drewN] at this⟩
theorem Turn.below (h:Turn w w' b v v') {B:Nat} (hB:B ≤ w.heap.size) (hb:B ≤ b) (hv:∀ k,v.ownBlock=some k→B ≤ k):Below B w w':=
 ⟨h.os,h.tape,h.output,h.size,fun k hk=>h.block k (by omega) (by omega) (fun e=>by have:=hv k e.symm;omega)⟩
end
theorem Pool.put {w wa w2:World} {T e:TypeId} {s b room n m:Nat} {v v':Value} {xs ys:List Value} (hP:Pool w T e s b v room n xs) (ha:w.grownBy wa none) (hsl:Sl w2 e s v' m ys) (hg:wa.grownBy w2 v.ownBlock) (hn:Next wa w2 v v') :
  (w2.cell? ⟨b,0,none⟩=some v∧w2.frozen? ⟨b,0,none⟩=false)∧Pool (w2.setCell ⟨b,0,none⟩ v') T e s b v' room m ys∧Turn w (w2.setCell ⟨b,0,none⟩ v') b v v':=by
 have hb:=hP.lt
 have hba:b < wa.heap.size:=Nat.lt_of_lt_of_le hb ha.size
 have h2:w2.heap[b]?=some (.cells #[v,.int .i64 (room:Int)] T (0,0)):=(hg.block b hba hP.own).trans ((ha.block b hb (by simp)).trans hP.blk)
 have hne:some b ≠ v'.ownBlock:=hn.ne hba hP.own
 refine ⟨⟨by simp [World.cell?,h2],by simp [World.frozen?,h2]⟩,⟨?_,hsl.of_block fun g hgk=>Below.heap_setCell _ _ _ _ (fun e=>hne (by rw [hgk,e])),hne⟩,⟨hg.os.trans ha.os,hg.tape.trans ha.tape,hg.output.trans ha.output,?_,fun k hk h1 h3=>?_,?_⟩⟩
 ·obtain ⟨hlt,hk⟩:=Array.getElem?_eq_some_iff.1 h2
  show (w2.heap.modify b _)[b]?=_
  rw [Array.getElem?_eq_getElem (by rw [Array.size_modify];exact hlt),Array.getElem_modify_self,hk]
  rfl
 ·exact Nat.le_trans ha.size (Nat.le_trans hg.size (by simp [World.setCell]))
 ·exact (Below.heap_setCell _ _ _ k h1).trans ((hg.block k (Nat.lt_of_lt_of_le hk ha.size) h3).trans (ha.block k hk (by simp)))
 ·rcases hn with hn | hn
  ·exact .inl hn
  ·exact .inr fun k hk=>Nat.le_trans ha.size (hn k hk)
theorem src_one {P:Program} {t:TypeId} (W:World) (xs:List Value) (s:Nat) (o:TypeId) {e':TypeId} (hk:P.underlying t=some (.slice e')) (hl:xs.length=s) (h1:∀ u ∈ xs,u.oneCell'=true):Src P s t (.slice (some ⟨W.heap.size,0,none⟩) 1 1) 1 xs (W.alloc (.cells xs.toArray o)):=
 Src.ofSlice _ hk ⟨W.heap.size,0,none⟩ 1 1 xs (by omega) (fun j u hj=>by
  rw [add_lit,cell_of_row _ _ _ _ _ _ (heap_alloc_new W _)];simpa using hj) h1
theorem src_one' {P:Program} {t:TypeId} (W:World) (g:Nat) (cs:Array Value) (o:TypeId) (xs:List Value) (s:Nat) {e':TypeId} (hk:P.underlying t=some (.slice e')) (hg:W.heap[g]?=some (.cells cs o (0,0))) (hcs:cs=xs.toArray) (hl:xs.length=s) (h1:∀ u ∈ xs,u.oneCell'=true):Src P s t (.slice (some ⟨g,0,none⟩) 1 1) 1 xs W:=
 Src.ofSlice _ hk ⟨g,0,none⟩ 1 1 xs (by omega) (fun j u hj=>by
  rw [add_lit,cell_of_row _ _ _ _ _ _ hg,hcs];simpa using hj) h1
def flat {α:Type} (f:α→List Value) (xs:List α):List Value:=xs.flatMap f
section
variable {α:Type} {f:α→List Value} {s:Nat} (hf:∀ x,(f x).length=s)
include hf
theorem flat_len:∀ xs:List α,(flat f xs).length=xs.length * s
 | []=>by simp [flat]
 | x :: r=>by
  have:=flat_len r
  unfold flat at this ⊢
  rw [List.flatMap_cons,List.length_append,this,hf,List.length_cons,Nat.add_mul];omega
theorem flat_at:∀ (xs:List α) (j:Nat) (x:α) (i:Nat) (v:Value),xs[j]?=some x→(f x)[i]?=some v→(flat f xs)[j * s + i]?=some v
 | [],j,x,i,v,h,_=>by simp at h
 | x0 :: r,0,x,i,v,h,hv=>by
  simp at h;subst h
  unfold flat
  rw [List.flatMap_cons,List.getElem?_append_left (by have:=(List.getElem?_eq_some_iff.1 hv).1;omega),Nat.zero_mul,Nat.zero_add];exact hv
 | x0 :: r,j + 1,x,i,v,h,hv=>by
  have:=flat_at r j x i v (by simpa using h) hv
  unfold flat at this ⊢
  rw [List.flatMap_cons,List.getElem?_append_right (by rw [hf,Nat.add_mul];omega),hf,show (j + 1) * s + i - s=j * s + i by rw [Nat.add_mul];omega];exact this
theorem flat_take (xs:List α) (k:Nat) (hk:k ≤ xs.length):(flat f xs).take (k * s)=flat f (xs.take k):=by
 have h:flat f xs=flat f (xs.take k) ++ flat f (xs.drop k):=by unfold flat;rw [← List.flatMap_append,List.take_append_drop]
 have hl:(flat f (xs.take k)).length=k * s:=by rw [flat_len hf,List.length_take,Nat.min_eq_left hk]
 rw [h,List.take_append_of_le_length (by omega),List.take_of_length_le (by omega)]
theorem flat_drop (xs:List α) (k:Nat) (hk:k ≤ xs.length):(flat f xs).drop (k * s)=flat f (xs.drop k):=by
 have h:flat f xs=flat f (xs.take k) ++ flat f (xs.drop k):=by unfold flat;rw [← List.flatMap_append,List.take_append_drop]
 have hl:(flat f (xs.take k)).length=k * s:=by rw [flat_len hf,List.length_take,Nat.min_eq_left hk]
 rw [h,List.drop_append_of_le_length (by omega),List.drop_of_length_le (by omega),List.nil_append]
end
theorem flat_append {α:Type} (f:α→List Value) (xs ys:List α):flat f (xs ++ ys)=flat f xs ++ flat f ys:=List.flatMap_append
theorem flat_one {α:Type} {f:α→List Value} (h:∀ x,∀ v ∈ f x,v.oneCell'=true) (xs:List α):∀ v ∈ flat f xs,v.oneCell'=true:=fun v hv=>by
 obtain ⟨x,_,hx⟩:=List.mem_flatMap.1 hv
 exact h x v hx
theorem flat_single {α:Type} (f:α→List Value) (x:α):flat f [x]=f x:=by simp [flat]
theorem flat_erase {α:Type} {f:α→List Value} {s:Nat} (hf:∀ x,(f x).length=s) (xs:List α) (k:Nat) (hk:k < xs.length):(flat f xs).take (k * s) ++ (flat f xs).drop ((k + 1) * s)=flat f (xs.eraseIdx k):=by
 rw [flat_take hf xs k (by omega),flat_drop hf xs (k + 1) (by omega),← flat_append,List.eraseIdx_eq_take_drop_succ]
end Go.Proofs.YtcoimipgilkmbaaGreatDoor.tt
