/-
 A slice of elements of any number of cells that lies somewhere in a block, a pool that lies in a block of its own, what an append makes of such a slice, and what a call on a pool leaves alone: definitions and laws. No condition but the bounds that each theorem names.
 What a pool of notes answers to New, Len, Room, At, Put, Take, Copy: contracts. No condition but the bounds that each theorem names.
 What a pool of notes is behind Put and Take, and what these and Copy answer: contracts. No condition but the bounds that each theorem names.
 What a pool of notes answers to Take and Copy: contracts. No condition but the bounds that each theorem names.
 Who goes over a pool of notes is told places and notes, in order, until a round says 'no more': contracts. No condition but the bounds that each theorem names.
-/
import Derived.Test.YtenhdijbcdkfbaaGreatDoorTl
import Derived.Test.YtenhdijbcdkfbaaGreatDoorNa
import Derived.Deep.AppendSrc
import Derived.RangeFuncBox
import Derived.BigQuiet
import Derived.Maps.AppendAt
import Derived.RangeFuncLeaves
import Derived.RangeFuncBound
import Derived.RangeFuncCalls
import Derived.Shelf.Abstract
import Derived.OwnWalkIn
import Derived.TacticsInMore
import Derived.LoopNIn
import Derived.LoopIn
namespace Go.Proofs.YtenhdijbcdkfbaaGreatDoor.tt
set_option linter.unusedVariables false
set_option linter.unusedSimpArgs false
set_option maxRecDepth 1000000
set_option maxHeartbeats 16000000
open Go Go.ChangeShapes Go.WideShapes Go.ChangeAt Go.RowKit
def Sl (w:World) (e:TypeId) (s:Nat) (v:Value) (n:Nat) (xs:List Value):Prop:=
 (v = .slice none 0 0∧n=0∧xs=[]) ∨ ∃ g off cap cur,v = .slice (some ⟨g,off,none⟩) n cap∧w.heap[g]?=some (.cells cur e (0,0))∧xs.length=n * s∧n ≤ cap∧cap ≤ maxLen∧off + cap * s ≤ cur.size∧∀ (k:Nat) x,xs[k]?=some x→cur[off + k]?=some x
section
variable {w:World} {e:TypeId} {s n:Nat} {v:Value} {xs:List Value}
theorem Sl.nil (w:World) (e:TypeId) (s:Nat):Sl w e s (.slice none 0 0) 0 []:= .inl ⟨rfl,rfl,rfl⟩
theorem Sl.of_block {w':World} (h:Sl w e s v n xs) (hk:∀ g,v.ownBlock=some g→w'.heap[g]?=w.heap[g]?):Sl w' e s v n xs:=by
 rcases h with h | ⟨g,off,cap,cur,rfl,hg,h1,h2,h3,h4,h5⟩
 ·exact .inl h
 ·exact .inr ⟨g,off,cap,cur,rfl,(hk g rfl).trans hg,h1,h2,h3,h4,h5⟩
theorem Sl.lt (h:Sl w e s v n xs) (g:Nat) (hg:v.ownBlock=some g):g < w.heap.size:=by
 rcases h with ⟨rfl,_⟩ | ⟨g',off,cap,cur,rfl,hb,_⟩
 ·simp [Value.ownBlock] at hg
 ·simp [Value.ownBlock] at hg;subst hg
  exact (Array.getElem?_eq_some_iff.1 hb).1
theorem Sl.grown {w':World} (h:Sl w e s v n xs) (hg:w.grownBy w' none):Sl w' e s v n xs:=h.of_block fun g hk=>hg.block g (h.lt g hk) (by simp)
theorem Sl.type (h:Sl w e s v n xs) (g:Nat) (hg:v.ownBlock=some g):∃ cur,w.heap[g]?=some (.cells cur e (0,0)):=by
 rcases h with ⟨rfl,_⟩ | ⟨g',off,cap,cur,rfl,hb,_⟩
 ·simp [Value.ownBlock] at hg
 ·simp [Value.ownBlock] at hg;subst hg;exact ⟨_,hb⟩
theorem Sl.form (h:Sl w e s v n xs):∃ ad cap,v = .slice ad n cap:=by
 rcases h with ⟨rfl,rfl,rfl⟩ | ⟨g,off,cap,cur,rfl,_⟩
 ·exact ⟨none,0,rfl⟩
 ·exact ⟨_,cap,rfl⟩
theorem Sl.len (h:Sl w e s v n xs):xs.length=n * s:=by
 rcases h with ⟨rfl,rfl,rfl⟩ | ⟨g,off,cap,cur,rfl,_,h1,_⟩
 ·simp
 ·exact h1
theorem Sl.cellAt {ad:Option Addr} {m cap:Nat} (h:Sl w e s (.slice ad m cap) n xs) (k:Nat) (x:Value) (hk:xs[k]?=some x) :
  ∃ g off,ad=some ⟨g,off,none⟩∧m=n∧∀ (j:Nat) u,xs[j]?=some u→w.cell? ⟨g,off + j,none⟩=some u:=by
 rcases h with ⟨_,_,rfl⟩ | ⟨g,off,cap',cur,hv,hb,h1,h2,h3,h4,h5⟩
 ·simp at hk
 ·cases hv
  exact ⟨g,off,rfl,rfl,fun j u hu=>by simp [World.cell?,hb,h5 j u hu]⟩
end
theorem heap_setCells (b:Nat) (e:TypeId):∀ (vs:List Value) (o:Nat) (w:World) (cur:Array Value),w.heap[b]?=some (.cells cur e (0,0))→o + vs.length ≤ cur.size →
  ∃ cur',(w.setCells b o vs).heap[b]?=some (.cells cur' e (0,0))∧cur'.size=cur.size∧(∀ j,(j < o ∨ o + vs.length ≤ j)→cur'[j]?=cur[j]?)∧(∀ j u,vs[j]?=some u→cur'[o + j]?=some u)
 | [],o,w,cur,h,hs=>⟨cur,h,rfl,fun _ _=>rfl,fun j u hu=>by simp at hu⟩
 | v :: r,o,w,cur,h,hs=>by
  have h':(w.setCell ⟨b,o,none⟩ v).heap[b]?=some (.cells (cur.set! o v) e (0,0)):=by
   obtain ⟨hlt,hk⟩:=Array.getElem?_eq_some_iff.1 h
   show (w.heap.modify b _)[b]?=_
   rw [Array.getElem?_eq_getElem (by rw [Array.size_modify];exact hlt),Array.getElem_modify_self,hk]
   simp [Array.set!_eq_setIfInBounds]
  obtain ⟨cur',g1,g2,g3,g4⟩:=heap_setCells b e r (o + 1) _ _ h' (by simp at hs ⊢;omega)
  refine ⟨cur',g1,by rw [g2];simp,fun j hj=>?_,fun j u hu=>?_⟩
  ·rw [g3 j (by simp at hj ⊢;omega),Array.set!_eq_setIfInBounds,Array.getElem?_setIfInBounds,if_neg (by simp at hj;omega)]
  ·cases j with
   | zero=>
    simp at hu;subst hu
    rw [Nat.add_zero,g3 o (by omega),Array.set!_eq_setIfInBounds,Array.getElem?_setIfInBounds,if_pos rfl,if_pos (by simp at hs;omega)]
   | succ j=>
    have:=g4 j u (by simpa using hu)
    rw [show o + (j + 1)=o + 1 + j by omega];exact this
def Next (w w':World) (v v':Value):Prop:=v'.ownBlock=v.ownBlock ∨ ∀ k,v'.ownBlock=some k→w.heap.size ≤ k
theorem Next.refl (w w':World) (v:Value):Next w w' v v:= .inl rfl
theorem Next.ne {w w':World} {v v':Value} (h:Next w w' v v') {k:Nat} (hk:k < w.heap.size) (hne:some k ≠ v.ownBlock):some k ≠ v'.ownBlock:=by
 rcases h with h | h
 ·rw [h];exact hne
 ·intro e;have:=h k e.symm;omega
theorem Next.ge {w w':World} {v v':Value} (h:Next w w' v v') {B:Nat} (hB:B ≤ w.heap.size) (hv:∀ k,v.ownBlock=some k→B ≤ k):∀ k,v'.ownBlock=some k→B ≤ k:=fun k hk=>by
 rcases h with h | h
 ·exact hv k (h ▸ hk)
 ·exact Nat.le_trans hB (h k hk)
section
variable {P:Program} (w:World)
theorem run_append_sl (t tx ty e:TypeId) (s:Nat) (i:TypeInfo) (z:Value) (bytes:Nat) (ht:P.underlying t=some (.slice e)) (hi:P.info? e=some i) (hz:i.zero=some z) (hsize:i.size=s) (hby:i.bytes=bytes) (hzs:z.cells.size=s)
  (v:Value) (m:Nat) (xs:List Value) (hsl:Sl w e s v m xs) (x:Value) (n:Nat) (news:List Value) (hs:Src P s tx x n news w) (h63:m + n ≤ maxLen) (hbytes:(m + n) * bytes ≤ 140737488355328) :
  ∃ v' w',(Builtin.append_ #[t,tx] ty #[v,x]).run P w = .ok v' w'∧Sl w' e s v' (m + n) (xs ++ news)∧w.grownBy w' v.ownBlock∧Next w w' v v':=by
 subst hby
 have hxl:=hsl.len
 have hnl:news.length=n * s:=hs.newsLen
 have hs':Src P i.size tx x n news w:=by rw [hsize];exact hs
 have hsmall:m + n ≤ 9223372036854775807:=by simp only [maxLen] at h63;omega
 have grow:∀ (base:Option Addr) (cap:Nat),v = .slice base m cap→(Builtin.firstCells i.size m v).run P w.drew = .ok xs.toArray w.drew→cap < m + n →
   ∃ v' w',(Builtin.append_ #[t,tx] ty #[v,x]).run P w = .ok v' w'∧Sl w' e s v' (m + n) (xs ++ news)∧w.grownBy w' v.ownBlock∧Next w w' v v':=by
  intro base cap hv hold hg
  subst hv
  have hr:=run_append_grow_src (P:=P) w t tx ty e i z ht hi hz base m cap xs hold x n news hs' hg (by omega) (growslice_fits hg hbytes)
  have hge:=grownCap_ge w (m + n) cap e
  have hcm:=grownCap_le_maxLen w (m + n) cap e h63
  refine ⟨_,_,hr,.inr ⟨w.heap.size,0,_,_,rfl,heap_alloc_new w.drew _,by rw [List.length_append,hnl,hxl,Nat.add_mul],hge,hcm,?_,fun k u hu=>?_⟩,⟨rfl,rfl,rfl,by simp,fun k hk _=>Below.heap_alloc w.drew _ k hk⟩,.inr fun k hk=>?_⟩
  ·simp only [Array.size_append,List.size_toArray,List.length_append,size_zeroCells,hzs,hnl,hxl,Nat.zero_add]
   rw [← Nat.add_mul,← Nat.add_mul]
   exact Nat.mul_le_mul_right _ (by omega)
  ·obtain ⟨hlt,hu'⟩:=List.getElem?_eq_some_iff.1 hu
   rw [Array.getElem?_append_left (by simpa using hlt)]
   simpa using hu
  ·simp [Value.ownBlock] at hk;omega
 rcases hsl with ⟨rfl,rfl,rfl⟩ | ⟨g,off,cap,cur,rfl,hb,h1,h2,h3,h4,h5⟩
 ·by_cases hn:n=0
  ·subst hn
   obtain rfl:news=[]:=List.eq_nil_of_length_eq_zero (by rw [hnl,Nat.zero_mul])
   refine ⟨.slice none 0 0,w,?_,Sl.nil w e s,⟨rfl,rfl,rfl,Nat.le_refl _,fun _ _ _=>rfl⟩,.inl rfl⟩
   have hc:=hs'.cells
   rcases hs'.kind with ⟨e',hk⟩ | hk <;> simp [Builtin.append_,run_underlying ht,run_underlying hk,sizeOf,typeInfo,hi,hs'.len,hc]
  ·exact grow none 0 rfl (run_firstCells_none w.drew i.size 0 0 0) (by omega)
 ·by_cases hroom:m + n ≤ cap
  ·have hms:(m + n) * s ≤ cap * s:=Nat.mul_le_mul_right _ hroom
   rw [Nat.add_mul] at hms
   have hfit:off + m * s + news.length ≤ cur.size:=by omega
   have hr:=run_append_room_src (P:=P) w t tx ty e i ht hi g off m cap x n news hs' hroom
    (fun j hj=>by rw [hsize];simp [World.cell?,hb];omega) (fun j hj=>by simp [World.frozen?,hb])
   rw [hsize] at hr
   obtain ⟨cur',g1,g2,g3,g4⟩:=heap_setCells g e news (off + m * s) w cur hb hfit
   obtain ⟨r1,r2,r3,r4⟩:=setCells_rest g news (off + m * s) w
   refine ⟨_,_,hr,.inr ⟨g,off,cap,cur',rfl,g1,by rw [List.length_append,hnl,hxl,Nat.add_mul],hroom,h3,by omega,fun k u hu=>?_⟩,⟨r1,r2,r3,by omega,fun k _ hk=>heap_setCells_other g k (fun e=>hk (by simp [Value.ownBlock,e])) _ _ _⟩,.inl rfl⟩
   rw [List.getElem?_append] at hu
   split at hu
   ·rename_i hlt
    rw [g3 _ (by omega)];exact h5 k u hu
   ·rename_i hge
    have:=g4 (k - xs.length) u hu
    rw [show off + k=off + m * s + (k - xs.length) by omega];exact this
  ·refine grow _ cap rfl ?_ (by omega)
   refine run_firstCells_some w.drew i.size m ⟨g,off,none⟩ m cap xs (by rw [hsize];exact hxl) fun j u hu=>?_
   rw [add_lit,World.cell?_drew]
   simp [World.cell?,hb,h5 j u hu]
end
theorem Sl.src {P:Program} {w:World} {e:TypeId} {s n:Nat} {v:Value} {xs:List Value} (h:Sl w e s v n xs) {tx e':TypeId} (hk:P.underlying tx=some (.slice e')) (h1:∀ u ∈ xs,u.oneCell'=true):Src P s tx v n xs w:=by
 rcases h with ⟨rfl,rfl,rfl⟩ | ⟨g,off,cap,cur,rfl,hb,hl,_,_,_,h5⟩
 ·obtain ⟨a1,a2,a3,a4,a5,a6⟩:=Src.ofNil (size:=s) w hk 0
  exact ⟨a1,a2,a3,a4,a5,a6⟩
 ·refine Src.ofSlice w hk ⟨g,off,none⟩ n cap xs hl (fun j u hu=>?_) h1
  rw [add_lit];simp [World.cell?,hb,h5 j u hu]
section
variable {P:Program} {w:World} {ops:Array Oper} {rest:List Oper} {a:Act} {Q:Exit→Act→World→Prop} {dst:Option Tmp} {ty:TypeId} {pos:String} {after:Array Edge}
theorem append_sl (t e:TypeId) (s:Nat) (i:TypeInfo) (z:Value) (bytes:Nat) (x y:Operand) (ht:P.underlying t=some (.slice e)) (hi:P.info? e=some i) (hz:i.zero=some z) (hsize:i.size=s) (hby:i.bytes=bytes) (hzs:z.cells.size=s)
  (v:Value) (m:Nat) (xs:List Value) (hsv:a.eval x=v) (hsl:Sl w e s v m xs) (u:Value) (n:Nat) (news:List Value) (hsu:a.eval y=u) (hs:Src P s t u n news w) (h63:m + n ≤ maxLen) (hbytes:(m + n) * bytes ≤ 140737488355328)
  (h:∀ v' w',Sl w' e s v' (m + n) (xs ++ news)→w.grownBy w' v.ownBlock→Next w w' v v'→wpList P ops Q rest (a.put dst v') w') :
  wpList P ops Q (⟨dst,.call { callee:= .builtin .append,args:=#[x,y],argTypes:=#[t,t] },ty,pos,after,none⟩ :: rest) a w:=
 wpList_plain rfl fun K hK=>by
  obtain ⟨v',w',hr,r1,r2,r3⟩:=run_append_sl (P:=P) w t t ty e s i z bytes ht hi hz hsize hby hzs v m xs hsl u n news hs h63 hbytes
  unfold Oper.wp execOp
  simp only [resolve,invoke,builtin,Sem.run_bind,Sem.run_pure,Result.andThen_ok,List.map_toArray,List.map_cons,List.map_nil,hsv,hsu,hr]
  exact hK _ _ (h v' w' r1 r2 r3)
theorem step_append_sl {o:Oper} {K:Act→World→Prop} {E:Prop} (hgd:o.guard=none) (x y:Operand) (t tx:TypeId)
  (ho:o.op = .call { callee:= .builtin .append,args:=#[x,y],argTypes:=#[t,tx] }) (e:TypeId) (s:Nat) (i:TypeInfo) (z:Value) (bytes:Nat) (ht:P.underlying t=some (.slice e)) (hi:P.info? e=some i) (hz:i.zero=some z) (hsize:i.size=s) (hby:i.bytes=bytes) (hzs:z.cells.size=s)
  (v:Value) (m:Nat) (xs:List Value) (hsv:a.eval x=v) (hsl:Sl w e s v m xs) (n:Nat) (news:List Value) (hs:Src P s tx (a.eval y) n news w) (h63:m + n ≤ maxLen) (hbytes:(m + n) * bytes ≤ 140737488355328)
  (h:∀ v' w',Sl w' e s v' (m + n) (xs ++ news)→w.grownBy w' v.ownBlock→Next w w' v v'→K (a.put o.dst v') w'):if Region.wanted o (yielded ops a.tmps)=true then Oper.wp P o a w K Q else E:=by
 have hw:Region.wanted o (yielded ops a.tmps)=true:=by simp [Region.wanted,hgd]
 rw [if_pos hw]
 obtain ⟨v',w',hr,r1,r2,r3⟩:=run_append_sl (P:=P) w t tx o.type e s i z bytes ht hi hz hsize hby hzs v m xs hsl (a.eval y) n news hs h63 hbytes
 unfold Oper.wp execOp
 simp only [ho,resolve,invoke,builtin,Sem.run_bind,Sem.run_pure,Result.andThen_ok,List.map_toArray,List.map_cons,List.map_nil,hsv,hr]
 exact h v' w' r1 r2 r3
end
theorem tail_sl {P:Program} {t e e':TypeId} {s:Nat} {w:World} {g off n cap:Nat} {xs:List Value} (hsl:Sl w e s (.slice (some ⟨g,off,none⟩) n cap) n xs) (i:Nat) (hi:i ≤ n) (hk:P.underlying t=some (.slice e')) (h1:∀ u ∈ xs,u.oneCell'=true) :
  ∃ A,(if cap=i then (some ⟨g,off,none⟩:Option Addr) else some ⟨g,off + i * s,none⟩)=some A∧Src P s t (.slice (some A) (n - i) (cap - i)) (n - i) (xs.drop (i * s)) w∧Sl w e s (.slice (some A) (n - i) (cap - i)) (n - i) (xs.drop (i * s))∧A.block=g:=by
 rcases hsl with ⟨h,_⟩ | ⟨g',off',cap',cur,h,hb,hl,h2,h3,h4,h5⟩
 ·cases h
 ·cases h
  by_cases hc:cap=i
  ·rw [if_pos hc]
   obtain rfl:n=i:=by omega
   have h0:xs.drop (n * s)=[]:=List.drop_of_length_le (by omega)
   have h00:n - n=0:=by omega
   rw [h0,h00]
   exact ⟨_,rfl,Src.ofSlice w hk _ 0 _ [] (by simp) (fun j u hu=>by simp at hu) (by simp),.inr ⟨g,off,_,cur,rfl,hb,by simp,by omega,by omega,by
    have:(cap - n) * s ≤ cap * s:=Nat.mul_le_mul_right _ (by omega)
    omega,fun k u hu=>by simp at hu⟩,rfl⟩
  ·rw [if_neg hc]
   have hd:(xs.drop (i * s)).length=(n - i) * s:=by rw [List.length_drop,hl,Nat.sub_mul]
   have hcell:∀ (k:Nat) u,(xs.drop (i * s))[k]?=some u→cur[off + i * s + k]?=some u:=fun k u hu=>by
    rw [List.getElem?_drop] at hu
    rw [Nat.add_assoc];exact h5 _ _ hu
   have hcs:i * s + (cap - i) * s=cap * s:=by rw [← Nat.add_mul];congr 1;omega
   refine ⟨_,rfl,Src.ofSlice w hk _ _ _ _ hd (fun j u hu=>?_) (fun u hu=>h1 u (List.mem_of_mem_drop hu)),.inr ⟨g,off + i * s,_,cur,rfl,hb,hd,by omega,by omega,by omega,hcell⟩,rfl⟩
   rw [add_lit];simp [World.cell?,hb,hcell j u hu]
theorem head_sl {w:World} {e:TypeId} {s g off n cap:Nat} {xs:List Value} (hsl:Sl w e s (.slice (some ⟨g,off,none⟩) n cap) n xs) (i:Nat) (hi:i ≤ n) (c:Nat) (hc:i ≤ c) (hcc:c ≤ cap):Sl w e s (.slice (some ⟨g,off,none⟩) i c) i (xs.take (i * s)):=by
 rcases hsl with ⟨h,_⟩ | ⟨g',off',cap',cur,h,hb,hl,h2,h3,h4,h5⟩
 ·cases h
 ·cases h
  have his:i * s ≤ n * s:=Nat.mul_le_mul_right _ hi
  have hcs:c * s ≤ cap * s:=Nat.mul_le_mul_right _ hcc
  have hd:(xs.take (i * s)).length=i * s:=by rw [List.length_take];omega
  refine .inr ⟨g,off,c,cur,rfl,hb,hd,hc,by omega,by omega,fun k u hu=>?_⟩
  rw [List.getElem?_take] at hu
  split at hu
  ·exact h5 k u hu
  ·cases hu
structure Pool (w:World) (T e:TypeId) (s:Nat) (b:Nat) (v:Value) (room n:Nat) (xs:List Value):Prop where
 blk:w.heap[b]?=some (.cells #[v,.int .i64 (room:Int)] T (0,0))
 sl:Sl w e s v n xs
 own:some b ≠ v.ownBlock
section
variable {w:World} {T e:TypeId} {s b room n:Nat} {v:Value} {xs:List Value}
theorem Pool.lt (h:Pool w T e s b v room n xs):b < w.heap.size:=(Array.getElem?_eq_some_iff.1 h.blk).1
theorem Pool.cell0 (h:Pool w T e s b v room n xs):w.cell? ⟨b,0,none⟩=some v:=by simp [World.cell?,h.blk]
theorem Pool.cell1 (h:Pool w T e s b v room n xs):w.cell? ⟨b,1,none⟩=some (.int .i64 (room:Int)):=by simp [World.cell?,h.blk]
theorem Pool.frozen (h:Pool w T e s b v room n xs) (j:Nat):w.frozen? ⟨b,j,none⟩=false:=by simp [World.frozen?,h.blk]
theorem Pool.of_block {w':World} (h:Pool w T e s b v room n xs) (hb:w'.heap[b]?=w.heap[b]?) (hk:∀ g,v.ownBlock=some g→w'.heap[g]?=w.heap[g]?):Pool w' T e s b v room n xs:=
 ⟨hb.trans h.blk,h.sl.of_block hk,h.own⟩
theorem Pool.grown {w':World} (h:Pool w T e s b v room n xs) (hg:w.grownBy w' none):Pool w' T e s b v room n xs:=
 h.of_block (hg.block b h.lt (by simp)) (fun g hk=>hg.block g (h.sl.lt g hk) (by simp))
theorem Pool.drewN (h:Pool w T e s b v room n xs) (k:Nat):Pool (w.drewN k) T e s b v room n xs:=
 h.of_block (by rw [World.heap_drewN]) (fun _ _=>by rw [World.heap_drewN])
end
structure Turn (w w':World) (b:Nat) (v v':Value):Prop where
 os:w'.os=w.os
 tape:w'.tape=w.tape
 output:w'.output=w.output
 size:w.heap.size ≤ w'.heap.size
 block:∀ k,k < w.heap.size→k ≠ b→some k ≠ v.ownBlock→w'.heap[k]?=w.heap[k]?
 next:Next w w' v v'
section
variable {w w':World} {b:Nat} {v v':Value}
theorem Turn.refl (w:World) (b:Nat) (v:Value):Turn w w b v v:=⟨rfl,rfl,rfl,Nat.le_refl _,fun _ _ _ _=>rfl,.inl rfl⟩
theorem Turn.of_grown (b:Nat) (v:Value) (h:w.grownBy w' none):Turn w w' b v v:=⟨h.os,h.tape,h.output,h.size,fun k hk _ _=>h.block k hk (by simp),.inl rfl⟩
theorem Turn.cell (h:Turn w w' b v v') {a:Addr} {u:Value} (hc:w.cell? a=some u) (hb:a.block ≠ b) (hv:some a.block ≠ v.ownBlock):w'.cell? a=some u:=
 (World.cell?_of_block (h.block a.block (World.block_lt_of_cell? w a hc) hb hv)).trans hc
theorem Turn.frozen (h:Turn w w' b v v') {a:Addr} (hl:a.block < w.heap.size) (hb:a.block ≠ b) (hv:some a.block ≠ v.ownBlock):w'.frozen? a=w.frozen? a:=
 World.frozen?_of_block (h.block a.block hl hb hv)
theorem Turn.sl (h:Turn w w' b v v') {e:TypeId} {s n:Nat} {u:Value} {xs:List Value} (hs:Sl w e s u n xs) (hb:some b ≠ u.ownBlock) (hv:u.ownBlock=none ∨ u.ownBlock ≠ v.ownBlock):Sl w' e s u n xs:=
 hs.of_block fun g hg=>h.block g (hs.lt g hg) (fun e=>hb (by rw [hg,e])) (fun e=>by
  rcases hv with hv | hv
  ·rw [hv] at hg;cases hg
  ·exact hv (hg.trans e))
theorem Turn.trans {a b c:World} {p:Nat} {v v' v'':Value} (h:Turn a b p v v') (k:Turn b c p v' v''):Turn a c p v v'':=
 ⟨k.os.trans h.os,k.tape.trans h.tape,k.output.trans h.output,Nat.le_trans h.size k.size,fun i hi hp hv=>(k.block i (Nat.lt_of_lt_of_le hi h.size) hp (h.next.ne hi hv)).trans (h.block i hi hp hv),by
  rcases k.next with k1 | k1
  ·rcases h.next with h1 | h1
   ·exact .inl (k1.trans h1)
   ·exact .inr fun i hi=>h1 i (k1 ▸ hi)
  ·exact .inr fun i hi=>Nat.le_trans h.size (k1 i hi)⟩
theorem Turn.drewN {n:Nat} (h:Turn (w.drewN n) w' b v v'):Turn w w' b v v':=
 ⟨h.os,h.tape,h.output,by have:=h.size;rwa [World.heap_drewN] at this,fun k hk h1 h2=>by have:=h.block k (by rw [World.heap_drewN];exact hk) h1 h2;rwa [World.heap_drewN] at this,by
  have:=h.next;unfold Next at this ⊢;rwa [World.heap_drewN] at this⟩
theorem Turn.below (h:Turn w w' b v v') {B:Nat} (hB:B ≤ w.heap.size) (hb:B ≤ b) (hv:∀ k,v.ownBlock=some k→B ≤ k):Below B w w':=
 ⟨h.os,h.tape,h.output,h.size,fun k hk=>h.block k (by omega) (by omega) (fun e=>by have:=hv k e.symm;omega)⟩
end
theorem Pool.put {w wa w2:World} {T e:TypeId} {s b room n m:Nat} {v v':Value} {xs ys:List Value} (hP:Pool w T e s b v room n xs) (ha:w.grownBy wa none) (hsl:Sl w2 e s v' m ys) (hg:wa.grownBy w2 v.ownBlock) (hn:Next wa w2 v v') :
  (w2.cell? ⟨b,0,none⟩=some v∧w2.frozen? ⟨b,0,none⟩=false)∧Pool (w2.setCell ⟨b,0,none⟩ v') T e s b v' room m ys∧Turn w (w2.setCell ⟨b,0,none⟩ v') b v v':=by
 have hb:=hP.lt
 have hba:b < wa.heap.size:=Nat.lt_of_lt_of_le hb ha.size
 have h2:w2.heap[b]?=some (.cells #[v,.int .i64 (room:Int)] T (0,0)):=(hg.block b hba hP.own).trans ((ha.block b hb (by simp)).trans hP.blk)
 have hne:some b ≠ v'.ownBlock:=hn.ne hba hP.own
 refine ⟨⟨by simp [World.cell?,h2],by simp [World.frozen?,h2]⟩,⟨?_,hsl.of_block fun g hgk=>Below.heap_setCell _ _ _ _ (fun e=>hne (by rw [hgk,e])),hne⟩,⟨hg.os.trans ha.os,hg.tape.trans ha.tape,hg.output.trans ha.output,?_,fun k hk h1 h3=>?_,?_⟩⟩
 ·obtain ⟨hlt,hk⟩:=Array.getElem?_eq_some_iff.1 h2
  show (w2.heap.modify b _)[b]?=_
  rw [Array.getElem?_eq_getElem (by rw [Array.size_modify];exact hlt),Array.getElem_modify_self,hk]
  rfl
 ·exact Nat.le_trans ha.size (Nat.le_trans hg.size (by simp [World.setCell]))
 ·exact (Below.heap_setCell _ _ _ k h1).trans ((hg.block k (Nat.lt_of_lt_of_le hk ha.size) h3).trans (ha.block k hk (by simp)))
 ·rcases hn with hn | hn
  ·exact .inl hn
  ·exact .inr fun k hk=>Nat.le_trans ha.size (hn k hk)
theorem src_one {P:Program} {t:TypeId} (W:World) (xs:List Value) (s:Nat) (o:TypeId) {e':TypeId} (hk:P.underlying t=some (.slice e')) (hl:xs.length=s) (h1:∀ u ∈ xs,u.oneCell'=true):Src P s t (.slice (some ⟨W.heap.size,0,none⟩) 1 1) 1 xs (W.alloc (.cells xs.toArray o)):=
 Src.ofSlice _ hk ⟨W.heap.size,0,none⟩ 1 1 xs (by omega) (fun j u hj=>by
  rw [add_lit,cell_of_row _ _ _ _ _ _ (heap_alloc_new W _)];simpa using hj) h1
theorem src_one' {P:Program} {t:TypeId} (W:World) (g:Nat) (cs:Array Value) (o:TypeId) (xs:List Value) (s:Nat) {e':TypeId} (hk:P.underlying t=some (.slice e')) (hg:W.heap[g]?=some (.cells cs o (0,0))) (hcs:cs=xs.toArray) (hl:xs.length=s) (h1:∀ u ∈ xs,u.oneCell'=true):Src P s t (.slice (some ⟨g,0,none⟩) 1 1) 1 xs W:=
 Src.ofSlice _ hk ⟨g,0,none⟩ 1 1 xs (by omega) (fun j u hj=>by
  rw [add_lit,cell_of_row _ _ _ _ _ _ hg,hcs];simpa using hj) h1
def flat {α:Type} (f:α→List Value) (xs:List α):List Value:=xs.flatMap f
section
variable {α:Type} {f:α→List Value} {s:Nat} (hf:∀ x,(f x).length=s)
include hf
theorem flat_len:∀ xs:List α,(flat f xs).length=xs.length * s
 | []=>by simp [flat]
 | x :: r=>by
  have:=flat_len r
  unfold flat at this ⊢
  rw [List.flatMap_cons,List.length_append,this,hf,List.length_cons,Nat.add_mul];omega
theorem flat_at:∀ (xs:List α) (j:Nat) (x:α) (i:Nat) (v:Value),xs[j]?=some x→(f x)[i]?=some v→(flat f xs)[j * s + i]?=some v
 | [],j,x,i,v,h,_=>by simp at h
 | x0 :: r,0,x,i,v,h,hv=>by
  simp at h;subst h
  unfold flat
  rw [List.flatMap_cons,List.getElem?_append_left (by have:=(List.getElem?_eq_some_iff.1 hv).1;omega),Nat.zero_mul,Nat.zero_add];exact hv
 | x0 :: r,j + 1,x,i,v,h,hv=>by
  have:=flat_at r j x i v (by simpa using h) hv
  unfold flat at this ⊢
  rw [List.flatMap_cons,List.getElem?_append_right (by rw [hf,Nat.add_mul];omega),hf,show (j + 1) * s + i - s=j * s + i by rw [Nat.add_mul];omega];exact this
theorem flat_take (xs:List α) (k:Nat) (hk:k ≤ xs.length):(flat f xs).take (k * s)=flat f (xs.take k):=by
 have h:flat f xs=flat f (xs.take k) ++ flat f (xs.drop k):=by unfold flat;rw [← List.flatMap_append,List.take_append_drop]
 have hl:(flat f (xs.take k)).length=k * s:=by rw [flat_len hf,List.length_take,Nat.min_eq_left hk]
 rw [h,List.take_append_of_le_length (by omega),List.take_of_length_le (by omega)]
theorem flat_drop (xs:List α) (k:Nat) (hk:k ≤ xs.length):(flat f xs).drop (k * s)=flat f (xs.drop k):=by
 have h:flat f xs=flat f (xs.take k) ++ flat f (xs.drop k):=by unfold flat;rw [← List.flatMap_append,List.take_append_drop]
 have hl:(flat f (xs.take k)).length=k * s:=by rw [flat_len hf,List.length_take,Nat.min_eq_left hk]
 rw [h,List.drop_append_of_le_length (by omega),List.drop_of_length_le (by omega),List.nil_append]
end
theorem flat_append {α:Type} (f:α→List Value) (xs ys:List α):flat f (xs ++ ys)=flat f xs ++ flat f ys:=List.flatMap_append
theorem flat_one {α:Type} {f:α→List Value} (h:∀ x,∀ v ∈ f x,v.oneCell'=true) (xs:List α):∀ v ∈ flat f xs,v.oneCell'=true:=fun v hv=>by
 obtain ⟨x,_,hx⟩:=List.mem_flatMap.1 hv
 exact h x v hx
theorem flat_single {α:Type} (f:α→List Value) (x:α):flat f [x]=f x:=by simp [flat]
theorem flat_erase {α:Type} {f:α→List Value} {s:Nat} (hf:∀ x,(f x).length=s) (xs:List α) (k:Nat) (hk:k < xs.length):(flat f xs).take (k * s) ++ (flat f xs).drop ((k + 1) * s)=flat f (xs.eraseIdx k):=by
 rw [flat_take hf xs k (by omega),flat_drop hf xs (k + 1) (by omega),← flat_append,List.eraseIdx_eq_take_drop_succ]
end Go.Proofs.YtenhdijbcdkfbaaGreatDoor.tt
namespace Go.Proofs.YtenhdijbcdkfbaaGreatDoor.tt
set_option linter.unusedVariables false
set_option linter.unusedSimpArgs false
set_option maxRecDepth 1000000
set_option maxHeartbeats 16000000
open Go Go.ChangeShapes Go.WideShapes Go.ChangeAt Go.RowKit
abbrev NSl (w:World) (v:Value) (ns:List Nt):Prop:=Sl w 45 24 v ns.length (flat nt ns)
abbrev NPool (w:World) (b:Nat) (v:Value) (room:Nat) (ns:List Nt):Prop:=Pool w 116 45 24 b v room ns.length (flat nt ns)
theorem nflat_one (ns:List Nt):∀ v ∈ flat nt ns,v.oneCell'=true:=flat_one nt_one ns
theorem infoN:(Tryz.prog.info? 45).map (fun i=>(i.zero,i.size,i.bytes))=some (some (.agg (na zn)),24,112):=by kernel_rfl
theorem zn_cells:(Value.agg (na zn)).cells.size=24:=by rfl
theorem nsl_at {w:World} {ad:Option Addr} {m cap:Nat} {ns:List Nt} (h:NSl w (.slice ad m cap) ns) (k:Nat) (x:Nt) (hk:ns[k]?=some x) :
  ∃ g off,ad=some ⟨g,off,none⟩∧m=ns.length∧w.rangeAt g (off + k * 24) (nt x):=by
 obtain ⟨v0,h0⟩:∃ v,(nt x)[0]?=some v:=⟨_,rfl⟩
 obtain ⟨g,off,ha,hm,hc⟩:=Sl.cellAt h _ _ (flat_at nt_len ns k x 0 v0 hk h0)
 exact ⟨g,off,ha,hm,fun j v hv=>by rw [Nat.add_assoc];exact hc _ _ (flat_at nt_len ns k x j v hk hv)⟩
section
variable {w:World} {ops:Array Oper} {rest:List Oper} {a:Act} {Q:Exit→Act→World→Prop} {dst:Option Tmp} {ty:TypeId} {pos:String} {after:Array Edge}
theorem load_na (n:Nt) (x:Tmp) (g o:Nat) (hx:a.eval (.tmp x) = .pointer (some ⟨g,o,none⟩)) (hg:w.rangeAt g o (nt n))
  (h:wpList Tryz.prog ops Q rest (a.put dst (.agg (na n))) w):wpList Tryz.prog ops Q (⟨dst,.load 45 (.tmp x),ty,pos,after,none⟩ :: rest) a w:=
 wpList_load_mid rfl 45 (.tmp x) rfl g o hx (nt n) _ hg Tryz.underlying45 rfl (info31' n) h
end
theorem ret_nte {fn:Func} {p q:Tmp} (hres:fn.results=#[.cell p 45,.tmp q]) (w:World) (n:Nt) (v:Value) (B:Nat) (tmps:Array Value) (Q:Ending→World→Prop) (h4:tmps.getD p undef = .pointer (some ⟨B,0,none⟩)) (h5:tmps.getD q undef=v)
  (hr:w.rangeAt B 0 (nt n)) (hQ:Q (.returned (.tuple #[.agg (na n),v])) w):bodyPost Tryz.prog fn Q .ret { tmps:=tmps,defers:=[] } w:=by
 refine bodyPost_ret (v:= .tuple #[.agg (na n),v]) ?_ rfl hQ
 have:=run_loadVar_mid (P:=Tryz.prog) w B 0 45 (nt n) _ hr Tryz.underlying45 rfl (info31' n)
 have h4':tmps[p]?.getD undef = .pointer (some ⟨B,0,none⟩):=by simpa using h4
 have h5':tmps[q]?.getD undef=v:=by simpa using h5
 simp [results,hres,h4',h5',asAddr,this,na]
theorem pnew_ok (room:Nat) (w:World) (h1:1 ≤ room) (h2:room ≤ 65536):Calls Tryz.prog 28 #[.int .i64 (room:Int)] w fun e w'=>e = .returned (.tuple #[.pointer (some ⟨w.heap.size,0,none⟩),.int .i64 0])∧w'=w.alloc (.cells #[.slice none 0 0,.int .i64 (room:Int)] 116):=by
 go_enter Tryz.func28,Tryz.ntmps28
 go_wp2
 go_ret2
 exact ⟨rfl,rfl⟩
section
variable (b:Nat) (v:Value) (room:Nat) (ns:List Nt) (w:World) (hP:NPool w b v room ns)
include hP
theorem plen_any:Calls Tryz.prog 53 #[.pointer (some ⟨b,0,none⟩)] w fun e w'=>e = .returned (.int .i64 (ns.length:Int))∧w=w':=by
 obtain ⟨ad,cap,rfl⟩:=hP.sl.form
 have hc:=hP.cell0
 clear hP
 go_enter Tryz.func53,Tryz.ntmps53
 go_wp2
 go_ret
 exact ⟨rfl,rfl⟩
theorem proom_any (hl:ns.length ≤ room) (hr:room ≤ 65536):Calls Tryz.prog 36 #[.pointer (some ⟨b,0,none⟩)] w fun e w'=>e = .returned (.int .i64 ((room:Int) - (ns.length:Int)))∧∃ n,w'=w.drewN n:=by
 obtain ⟨ad,cap,rfl⟩:=hP.sl.form
 have hc:=hP.cell0
 have hc1:=hP.cell1
 clear hP
 obtain ⟨q,hq⟩:∃ q,q=ns.length:=⟨_,rfl⟩
 rw [← hq] at hc hl ⊢
 clear hq
 go_enter Tryz.func36,Tryz.ntmps36
 go_wp2_with fail
 go_quiet (fail)
 go_wp2_with fail
 go_ret
 exact ⟨rfl,_,rfl⟩
end
theorem twoz (w:World):∃ w2,(w.alloc (.cells (na zn) 45)).alloc (.cells (na zn) 45)=w2∧Two w w2 zn:=two_of w zn
theorem Two.set {w w2:World} {n:Nt} (h:Two w w2 n) (m:Nt):(w2.setRow w.heap.size (na m)).rangeAt w.heap.size 0 (nt m)∧w.grownBy (w2.setRow w.heap.size (na m)) none:=
 ⟨range_of (setRow_heap _ _ _ _ _ _ h.old),grown_setRow h.grown _ (Nat.le_refl _) _⟩
theorem pat_in (b:Nat) (v:Value) (room:Nat) (ns:List Nt) (k:Nat) (x:Nt) (w:World) (hP:NPool w b v room ns) (hx:ns[k]?=some x):Calls Tryz.prog 96 #[.pointer (some ⟨b,0,none⟩),.int .i64 (k:Int)] w fun e w'=>e = .returned (.tuple #[.agg (na x),.int .i64 0])∧w.grownBy w' none:=by
 obtain ⟨w2,hw,h2⟩:=twoz w
 have hP2:=hP.grown h2.grown
 obtain ⟨ad,cap,rfl⟩:=hP2.sl.form
 obtain ⟨g,off,rfl,_,hr⟩:=nsl_at hP2.sl k x hx
 have hc:=hP2.cell0
 have hk:k < ns.length:=(List.getElem?_eq_some_iff.1 hx).1
 have hz:na zn=_:=bare_na 0 0 0 0 0 0 false false
 rw [hz] at hw
 have HT:=qh h2
 have HR:=qh hr
 clear hP hP2 h2 hz hx hr
 obtain ⟨q,hq⟩:∃ q,q=ns.length:=⟨_,rfl⟩
 rw [← hq] at hc hk
 clear hq
 go_enter Tryz.func96,Tryz.ntmps96
 go_wp2_with (first
  | ((with_reducible refine load_na x _ g (off + k * 24) ?_ HR.out ?_);(rfl))
  | ((with_reducible refine store_any x _ _ _ w.heap.size ?_ ?_ HT.out.old ?_ ?_);(rfl);(rfl);(rfl)))
 exact ret_nte rfl _ x _ w.heap.size _ _ (by rfl) (by rfl) (HT.out.set x).1 ⟨rfl,(HT.out.set x).2⟩
end Go.Proofs.YtenhdijbcdkfbaaGreatDoor.tt
namespace Go.Proofs.YtenhdijbcdkfbaaGreatDoor.tt
set_option linter.unusedVariables false
set_option linter.unusedSimpArgs false
set_option maxRecDepth 1000000
set_option maxHeartbeats 16000000
open Go Go.ChangeShapes Go.WideShapes Go.ChangeAt Go.RowKit
theorem build_na (n:Nt):Array.foldl (fun (cs:Array Value) (x:Value × Nat)=>cs.setIfInBounds x.snd x.fst) #[.int .u8 0,.int .i64 0,.int .i64 0,.int .i64 0,.int .u64 0,.int .u8 0,.bool false,.bool false,.int .u32 0,.int .u32 0,.int .u32 0,.int .u32 0,.int .u32 0,.int .u32 0,.int .u32 0,.int .u32 0,.int .u32 0,.int .u32 0,.int .u32 0,.int .u32 0,.int .u32 0,.int .u32 0,.int .u32 0,.int .u32 0] (na n).zipIdx 0 24=na n:=by
 obtain ⟨k,f,t,b,st,s,h,q,d,hd⟩:=n
 match d,hd with
 | [d0,d1,d2,d3,d4,d5,d6,d7,d8,d9,d10,d11,d12,d13,d14,d15],_=>simp [na,nt]
theorem pput_ok (b:Nat) (v:Value) (room:Nat) (ns:List Nt) (n:Nt) (w:World) (hP:NPool w b v room ns) (hl:ns.length < room) (hr:room ≤ 65536) :
  Calls Tryz.prog 46 #[.pointer (some ⟨b,0,none⟩),.agg (na n)] w fun e w'=>e = .returned (.int .i64 0)∧∃ v',NPool w' b v' room (ns ++ [n])∧Turn w w' b v v':=by
 obtain ⟨i0,hi,hz0,hz1,hz2⟩:=info_parts infoN
 have hg1:w.grownBy (w.alloc (.cells (na n) 45)) none:=grown_alloc (grown_refl _ _) _
 have hP1:=hP.grown hg1
 have HR:=qh (proom_any b v room ns (w.alloc (.cells (na n) 45)) hP1 (by omega) hr)
 have h0:((room:Int) - (ns.length:Int) == 0)=false:=by simp;omega
 have HG:=qh hg1
 have HP:=qh hP
 obtain ⟨ad,cap,rfl⟩:=hP.sl.form
 have HQ:Hid (ns.length + 1 ≤ 65536):=qh (by omega)
 have HN:Hid ((w.alloc (.cells (na n) 45)).rangeAt w.heap.size 0 (nt n)):=qh (range_of (heap_alloc_new _ _))
 obtain ⟨q,hq⟩:∃ q,q=(room:Int) - (ns.length:Int):=⟨_,rfl⟩
 rw [← hq] at HR h0
 obtain ⟨m,hm⟩:∃ m,m=ns.length:=⟨_,rfl⟩
 have HM:=qh hm
 rw [← hm] at HP HQ
 obtain ⟨t,mm,HTT,hagg,hsize,hld⟩:=named
 have HLD:=qh hld
 clear hP hl hr hq hP1 hm hg1 hld
 rw [← HM.out] 
 go_enter Tryz.func46,Tryz.ntmps46
 go_wp2_with (first
  | (go_at_call 36;((with_reducible refine HR.out.mono ?_);rintro e w1 ⟨rfl,n1,hw1⟩;have HW:=qh hw1;have hP1:=HP.out.grown (w':=w1) (by rw [hw1];exact grown_drewN HG.out _);have hc1:=hP1.cell0;have hf1:=hP1.frozen 0;have HP1:=qh hP1;clear hw1 hP1))
  | fail)
 rw [HTT.out]
 have HL2:Hid (∀ w',w1.grownBy w' none→(loadCellsFrom ⟨w.heap.size,0,none⟩ 0 mm #[]).run Tryz.prog w' = .ok (na n) w'):=qh fun w' h=>HLD.out _ n w' (range_grown HN.out (grown_trans (by rw [HW.out];exact grown_drewN (grown_refl _ _) _) h) (by simp))
 have hl1:=HL2.out w1.drew (grown_drew (grown_refl _ _))
 have hsz:=na_size n
 have hfd:=build_na n
 have hgw:w1.grownBy (w1.alloc (.cells (na n) 45)).drew none:=grown_drew (grown_alloc (grown_refl _ _) _)
 have HSL:Hid (NSl (w1.alloc (.cells (na n) 45)).drew (.slice ad m cap) ns):=qh (HP1.out.sl.grown hgw)
 have HSR:Hid (Src Tryz.prog 24 24 (.slice (some ⟨w1.heap.size,0,none⟩) 1 1) 1 (nt n) (w1.alloc (.cells (na n) 45)).drew):=qh (src_one' _ w1.heap.size (na n) _ (nt n) 24 Tryz.underlying24 (show (w1.alloc (.cells (na n) 45)).drew.heap[w1.heap.size]?=_ from heap_alloc_new w1 _) rfl (nt_len n) (nt_one n))
 have HGW:=qh hgw
 have hc3:(w1.alloc (.cells (na n) 45)).cell? ⟨b,0,none⟩=some (.slice ad m cap):=(HP1.out.grown hgw).cell0
 clear hgw
 go_region_law (refine step_append_sl rfl (.tmp 14) (.tmp 16) 24 24 rfl 45 24 i0 (.agg (na zn)) 112 Tryz.underlying24 hi hz0 hz1 hz2 zn_cells (.slice ad m cap) ns.length (flat nt ns) (by simp [Act.eval]) HSL.out 1 (nt n) (by simpa [Act.eval,Act.put] using HSR.out) (by have:=HQ.out;have:=HM.out;unfold maxLen;omega) (by have:=HQ.out;have:=HM.out;omega) ?_;intro v' w2 hsl hgr hnx;obtain ⟨⟨hc2,hf2⟩,hP2,hT2⟩:=HP1.out.put HGW.out hsl hgr hnx;obtain ⟨ad',cap',rfl⟩:=hsl.form)
 all_goals
  go_wp2_with fail
  go_ret
  refine ⟨rfl,.slice ad' (ns.length + 1) cap',?_,?_⟩
  ·show Pool _ _ _ 24 b _ room (ns ++ [n]).length (flat nt (ns ++ [n]))
   rw [flat_append,flat_single,List.length_append];exact hP2
  ·rw [HW.out] at hT2
   exact (Turn.trans (Turn.of_grown b _ (grown_drewN HG.out n1)) hT2)
theorem pcut_first (b:Nat) (v:Value) (room:Nat) (ns:List Nt) (w:World) (hP:NPool w b v room ns) (hl:0 < ns.length) (hr:ns.length ≤ 65536) :
  Calls Tryz.prog 97 #[.pointer (some ⟨b,0,none⟩),.int .i64 0] w fun e w'=>(∃ u,e = .returned u)∧∃ v',NPool w' b v' room (ns.eraseIdx 0)∧Turn w w' b v v':=by
 have hsl:=hP.sl
 have hf:=hP.frozen 0
 have hc:=hP.cell0
 rcases hsl with ⟨_,h,_⟩ | ⟨g,off,cap,cur,rfl,hb,h1,h2,h3,h4,h5⟩
 ·omega
 have hsl:=hP.sl
 obtain ⟨A,hA,_,hslA,hAg⟩:=tail_sl (P:=Tryz.prog) hsl 1 (by omega) Tryz.underlying24 (nflat_one ns)
 rw [Nat.one_mul] at hA hslA
 have HSA:=qh hslA
 have HP:=qh hP
 have hcl:cap ≤ 9223372036854775807:=by unfold maxLen at h3;omega
 have HAG:=qh hAg
 have HSL:=qh hsl
 have he:(flat nt ns).drop 24=flat nt (ns.eraseIdx 0):=by
  have:=flat_erase nt_len ns 0 hl
  simpa using this
 have HE:=qh he
 obtain ⟨q,hq⟩:∃ q,q=ns.length:=⟨_,rfl⟩
 have HQ:=qh hq
 rw [← hq] at hc HSA HSL h2 hr hl
 clear hsl hP hslA hAg hb h1 h3 h4 h5 he hq
 go_enter Tryz.func97,Tryz.ntmps97
 go_wp2_with fail
 refine bodyPost_ret (results_none rfl _ _ _) rfl ?_
 obtain ⟨_,hP2,hT2⟩:=HP.out.put (wa:=w) (w2:=w) ⟨rfl,rfl,rfl,Nat.le_refl _,fun _ _ _=>rfl⟩ HSA.out ⟨rfl,rfl,rfl,Nat.le_refl _,fun _ _ _=>rfl⟩ (.inl (by simp [Value.ownBlock,HAG.out]))
 rw [HE.out] at hP2
 refine ⟨⟨_,rfl⟩,.slice (some A) (q - 1) (cap - 1),?_,hT2⟩
 have hlen:(ns.eraseIdx 0).length=q - 1:=by rw [List.length_eraseIdx_of_lt (by rw [← HQ.out];exact hl),HQ.out]
 show Pool _ _ _ 24 b _ room (ns.eraseIdx 0).length _
 rw [hlen];exact hP2
theorem pcut_mid (b:Nat) (v:Value) (room:Nat) (ns:List Nt) (k:Nat) (w:World) (hP:NPool w b v room ns) (hk0:0 < k) (hl:k < ns.length) (hr:ns.length ≤ 65536) :
  Calls Tryz.prog 97 #[.pointer (some ⟨b,0,none⟩),.int .i64 (k:Int)] w fun e w'=>(∃ u,e = .returned u)∧∃ v',NPool w' b v' room (ns.eraseIdx k)∧Turn w w' b v v':=by
 obtain ⟨i0,hi,hz0,hz1,hz2⟩:=info_parts infoN
 have hf:=hP.frozen 0
 have hc:=hP.cell0
 rcases hP.sl with ⟨_,h,_⟩ | ⟨g,off,cap,cur,rfl,hb,h1,h2,h3,h4,h5⟩
 ·omega
 have hsl:NSl w.drew _ ns:=hP.sl.of_block (fun _ _=>rfl)
 obtain ⟨A,hA,hsrc,_,hAg⟩:=tail_sl (P:=Tryz.prog) hsl (k + 1) (by omega) Tryz.underlying24 (nflat_one ns)
 have hhd:=head_sl hsl k (by omega) k (Nat.le_refl _) (by omega)
 have hcl:cap ≤ 9223372036854775807:=by unfold maxLen at h3;omega
 have hkc:k ≤ cap:=by omega
 have hkc1:k + 1 ≤ cap:=by omega
 have hkl1:k + 1 ≤ ns.length:=by omega
 have HP:=qh hP
 have HS:=qh hsrc
 have HH:=qh hhd
 have HE:=qh (flat_erase nt_len ns k hl)
 have HK:Hid (k + (ns.length - (k + 1)) ≤ 65536):=qh (by omega)
 have HN:Hid ((ns.eraseIdx k).length=k + (ns.length - (k + 1))):=qh (by rw [List.length_eraseIdx_of_lt hl];omega)
 have hw:IntKind.i64.wrap ((k:Int) + 1)=((k:Int) + 1):=by simp [IntKind.wrap,IntKind.bits,IntKind.signed];omega
 have ht:((k:Int) + 1).toNat=k + 1:=by omega
 have hk1:0 ≤ (k:Int) + 1:=by omega
 have hk2:(k:Int) + 1 ≤ (ns.length:Int):=by omega
 clear hsl hP hsrc hhd hb h1 h2 h3 h4 h5 hAg
 go_enter Tryz.func97,Tryz.ntmps97
 go_wp2_with fail
 go_region_law (refine step_append_sl rfl (.tmp 21) (.tmp 28) 24 24 rfl 45 24 i0 (.agg (na zn)) 112 Tryz.underlying24 hi hz0 hz1 hz2 zn_cells (.slice (some ⟨g,off,none⟩) k k) k ((flat nt ns).take (k * 24)) (by simp [Act.eval,Act.put]) HH.out _ _ HS.out (by have:=HK.out;unfold maxLen;omega) (by have:=HK.out;omega) ?_;intro v' w2 hsl hgr hnx;obtain ⟨⟨hc2,hf2⟩,hP2,hT2⟩:=(HP.out.drewN 1).put (wa:=w.drewN 1) ⟨rfl,rfl,rfl,Nat.le_refl _,fun _ _ _=>rfl⟩ hsl hgr hnx;obtain ⟨ad',cap',rfl⟩:=hsl.form)
 all_goals
  go_end0
  rw [HE.out,← HN.out] at hP2
  rw [← HN.out] at hT2
  exact ⟨⟨_,rfl⟩,_,by rw [← HN.out];exact hP2,by rw [← HN.out];exact hT2.drewN⟩
theorem pcut_any (b:Nat) (v:Value) (room:Nat) (ns:List Nt) (k:Nat) (w:World) (hP:NPool w b v room ns) (hl:k < ns.length) (hr:ns.length ≤ 65536) :
  Calls Tryz.prog 97 #[.pointer (some ⟨b,0,none⟩),.int .i64 (k:Int)] w fun e w'=>(∃ u,e = .returned u)∧∃ v',NPool w' b v' room (ns.eraseIdx k)∧Turn w w' b v v':=by
 by_cases h0:k=0
 ·subst h0;exact pcut_first b v room ns w hP hl hr
 ·exact pcut_mid b v room ns k w hP (by omega) hl hr
end Go.Proofs.YtenhdijbcdkfbaaGreatDoor.tt
namespace Go.Proofs.YtenhdijbcdkfbaaGreatDoor.tt
set_option linter.unusedVariables false
set_option linter.unusedSimpArgs false
set_option maxRecDepth 1000000
set_option maxHeartbeats 16000000
open Go Go.ChangeShapes Go.WideShapes Go.ChangeAt Go.RowKit
theorem onez (w:World):∃ w2,w.alloc (.cells (na zn) 45)=w2∧w.grownBy w2 none∧w2.heap[w.heap.size]?=some (.cells (na zn) 45 (0,0))∧w2.heap.size=w.heap.size + 1:=
 ⟨_,rfl,grown_alloc (grown_refl _ _) _,heap_alloc_new _ _,by simp⟩
theorem ptake_in (b:Nat) (v:Value) (room:Nat) (ns:List Nt) (k:Nat) (x:Nt) (w:World) (hP:NPool w b v room ns) (hx:ns[k]?=some x) (hr:ns.length ≤ 65536) :
  Calls Tryz.prog 73 #[.pointer (some ⟨b,0,none⟩),.int .i64 (k:Int)] w fun e w'=>e = .returned (.tuple #[.agg (na x),.int .i64 0])∧∃ v',NPool w' b v' room (ns.eraseIdx k)∧Turn w w' b v v':=by
 obtain ⟨w2,hw,hg2,hb2,hs2⟩:=onez w
 have hz:na zn=_:=bare_na 0 0 0 0 0 0 false false
 rw [hz] at hw
 have hP2:=hP.grown hg2
 have HA:=qh (pat_in b v room ns k x w2 hP2 hx)
 have HC:Hid (∀ w',w2.grownBy w' none→_):=qh fun w' h=>pcut_any b v room ns k w' (hP2.grown h) (List.getElem?_eq_some_iff.1 hx).1 hr
 have HG:=qh hg2
 have HB:=qh hb2
 have HS:=qh hs2
 have hbw:=hP.lt
 have HV:=qh hP.sl.lt
 have HT:Hid (∀ g,v.ownBlock=some g→∃ cur,w.heap[g]?=some (.cells cur 45 (0,0))):=qh hP.sl.type
 clear hP hP2 hx hz hg2 hb2 hs2 hr
 go_enter Tryz.func73,Tryz.ntmps73
 go_wp2_with (first
  | (go_at_call 96;((with_reducible refine HA.out.mono ?_);rintro e w3 ⟨rfl,hg3⟩;have HG3:=qh (grown_alloc hg3 (.cells (na x) 45));have HZ3:=qh hg3.size;clear hg3))
  | ((with_reducible refine store_new x _ _ _ ?_ ?_ ?_ ?_);(rfl);(rfl);(rfl))
  | (go_at_call 97;((with_reducible refine (HC.out _ HG3.out).mono ?_);rintro e w4 ⟨⟨u,rfl⟩,v',hP4,hT4⟩;have HP4:=qh hP4;have HT4:=qh hT4;have HX4:Hid (w4.heap[w3.heap.size]?=some (.cells (na x) 45 (0,0))):=qh ((hT4.block w3.heap.size (by simp) (by have:=HZ3.out;have:=HS.out;omega) (fun e=>by have:=HV.out _ e.symm;have:=HZ3.out;have:=HS.out;omega)).trans (heap_alloc_new _ _));have HB4:Hid (w4.heap[w.heap.size]?=some (.cells (na zn) 45 (0,0))):=qh ((hT4.block w.heap.size (by have:=HZ3.out;have:=HS.out;simp;omega) (by omega) (fun e=>by have:=HV.out _ e.symm;omega)).trans ((HG3.out.block w.heap.size (by rw [HS.out];omega) (by simp)).trans HB.out));clear hP4 hT4))
  | ((with_reducible refine load_nt x _ w3.heap.size ?_ (range_of HX4.out) ?_);(rfl))
  | ((with_reducible refine store_any x _ _ _ w.heap.size ?_ ?_ HB4.out ?_ ?_);(rfl);(rfl);(rfl)))
 refine ret_nte rfl _ x _ w.heap.size _ _ (by rfl) (by rfl) (range_of (setRow_heap _ _ _ _ _ _ HB4.out)) ⟨rfl,v',?_,?_⟩
 ·exact HP4.out.of_block (setRow_other _ _ _ _ (by omega)) (fun g hg=>setRow_other _ _ _ _ (fun e=>by
   rcases HT4.out.next with h | h
   ·rw [h] at hg;have:=HV.out g hg;omega
   ·have h1:=h g hg;have:=HZ3.out;have:=HS.out;simp at h1;omega))
 ·have hT:=Turn.trans (Turn.of_grown b v (grown_trans HG.out HG3.out)) HT4.out
  exact ⟨hT.os,hT.tape,hT.output,by have:=hT.size;simp;omega,fun i hi hp hv=>(setRow_other _ _ _ _ (by omega)).trans (hT.block i hi hp hv),hT.next⟩
theorem Sl.empty (w:World) (e:TypeId) (s:Nat):Sl (w.alloc (.cells #[] e)) e s (.slice (some ⟨w.heap.size,0,none⟩) 0 0) 0 []:=
 .inr ⟨w.heap.size,0,0,#[],rfl,heap_alloc_new w _,by simp,Nat.le_refl _,by unfold maxLen;omega,by simp,fun k x hk=>by simp at hk⟩
theorem nclone_any (v:Value) (ns:List Nt) (w:World) (hs:NSl w v ns) (hl:ns.length ≤ 65536) :
  Calls Tryz.prog 67 #[v] w fun e w'=>∃ v',e = .returned v'∧NSl w' v' ns∧w.grownBy w' none∧∀ k,v'.ownBlock=some k→w.heap.size ≤ k:=by
 obtain ⟨i0,hi,hz0,hz1,hz2⟩:=info_parts infoN
 have q50:∀ (w:World) (a:Option Addr) (n c n' c':Nat),(binOp .eql 24 (.slice a n c) (.slice none n' c')).run Tryz.prog w = .ok (.bool a.isNone) w:=fun w a n c n' c'=>Lib.run_eql_slice_nil w _ _ a n c n' c' Tryz.underlying24
 have HS:=qh hs
 have HL:=qh hl
 rcases hs with ⟨rfl,h0,h⟩ | ⟨g,off,cap,cur,hv,_⟩
 ·have HX:=qh h
  have H0:=qh h0
  clear h h0 hl
  go_enter Tryz.func67,Tryz.ntmps67
  go_wp2
  go_ret
  refine ⟨_,rfl,?_,⟨rfl,rfl,rfl,Nat.le_refl _,fun _ _ _=>rfl⟩,fun k hk=>by simp [Value.ownBlock] at hk⟩
  exact HS.out
 ·obtain ⟨n0,hn0⟩:∃ n,n=ns.length:=⟨_,rfl⟩
  rw [← hn0] at hv
  subst hv
  have HN:=qh hn0
  clear hl hn0
  go_enter Tryz.func67,Tryz.ntmps67
  go_wp2_with ((with_reducible refine append_sl 24 45 24 i0 (.agg (na zn)) 112 _ _ Tryz.underlying24 hi hz0 hz1 hz2 zn_cells (.slice (some ⟨w.heap.size,0,none⟩) 0 0) 0 [] ?_ (Sl.empty w _ 24) (.slice (some ⟨g,off,none⟩) n0 cap) ns.length (flat nt ns) ?_ ((HS.out.grown (grown_alloc (grown_refl _ _) _)).src Tryz.underlying24 (nflat_one ns)) ?_ ?_ ?_);(rfl);(rfl);(have:=HL.out;unfold maxLen;omega);(have:=HL.out;omega);(intro v' w2 hsl hgr hnx;rw [Nat.zero_add,List.nil_append] at hsl))
  go_ret
  refine ⟨v',rfl,hsl,⟨hgr.os,hgr.tape,hgr.output,?_,fun k hk _=>?_⟩,fun k hk=>?_⟩
  ·have:=hgr.size;simp at this;omega
  ·exact (hgr.block k (by simp;omega) (by simp [Value.ownBlock];omega)).trans (Below.heap_alloc _ _ _ hk)
  ·rcases hnx with h | h
   ·rw [h] at hk;simp [Value.ownBlock] at hk;omega
   ·have:=h k hk;simp at this;omega
theorem pcopy_any (b:Nat) (v:Value) (room:Nat) (ns:List Nt) (w:World) (hP:NPool w b v room ns) (hl:ns.length ≤ 65536) :
  Calls Tryz.prog 43 #[.pointer (some ⟨b,0,none⟩)] w fun e w'=>∃ b' v',e = .returned (.pointer (some ⟨b',0,none⟩))∧w.heap.size ≤ b'∧NPool w' b' v' room ns∧w.grownBy w' none∧∀ k,v'.ownBlock=some k→w.heap.size ≤ k:=by
 have hc:=hP.cell0
 have hc1:=hP.cell1
 obtain ⟨ad0,cap0,rfl⟩:=hP.sl.form
 have HC:=qh (nclone_any _ ns w.drew (hP.sl.of_block (fun _ _=>rfl)) hl)
 have HP:=qh hP
 clear hP hl
 go_enter Tryz.func43,Tryz.ntmps43
 go_wp2_with fail
 go_region_with (go_at_call 67;((with_reducible refine HC.out.mono ?_);rintro e w2 ⟨v',rfl,hsl2,hgr2,hfr2⟩;have hc2:=hgr2.cell (show w.drew.cell? ⟨b,1,none⟩=_ from hc1) (by simp);obtain ⟨ad',cap',rfl⟩:=hsl2.form))
 all_goals
  go_wp2_with fail
  go_ret
  have hs2:=hgr2.size
  have hr2:w2.heap.size ≠ 0:=by have:=HP.out.lt;simp at hs2;omega
  refine ⟨_,_,rfl,by simpa using hs2,⟨heap_alloc_new _ _,hsl2.of_block (fun g hg=>Below.heap_alloc _ _ _ (hsl2.lt g hg)),fun e=>by have:=hsl2.lt _ e.symm;omega⟩,⟨hgr2.os,hgr2.tape,hgr2.output,by simp at hs2 ⊢;omega,fun k hk h=>?_⟩,hfr2⟩
  exact (Below.heap_alloc _ _ _ (by simp at hs2;omega)).trans (hgr2.block k hk h)
end Go.Proofs.YtenhdijbcdkfbaaGreatDoor.tt
namespace Go.Proofs.YtenhdijbcdkfbaaGreatDoor.tt
set_option linter.unusedVariables false
set_option linter.unusedSimpArgs false
set_option maxRecDepth 1000000
set_option maxHeartbeats 16000000
open Go Go.RowKit Go.Shelf
attribute [local go_sem] Oper.semAt_some
def Same (v:Value) (A B:World):Prop:=∀ k,v.ownBlock=some k→B.heap[k]?=A.heap[k]?
theorem Same.refl (v:Value) (A:World):Same v A A:=fun _ _=>rfl
theorem Same.trans {v:Value} {A B C:World} (h:Same v A B) (k:Same v B C):Same v A C:=fun i hi=>(k i hi).trans (h i hi)
theorem Same.put {v:Value} {w:World} (hv:∀ k,v.ownBlock=some k→k < w.heap.size) (W:World) (l:Nat) (o o':Obj) (hl:w.heap.size ≤ l) (h:W.heap[l]?=some o) (_:o.isCells=false) (_:o.isWalk=false):Same v W (W.putObj l o'):=
 fun k hk=>World.putObj_heap_other (by have:=hv k hk;omega)
theorem Same.of_grown {v:Value} {A B:World} (hv:∀ k,v.ownBlock=some k→k < A.heap.size) (h:A.grownBy B none):Same v A B:=fun k hk=>h.block k (hv k hk) (by simp)
theorem take_snoc {α:Type} (l:List α) (k:Nat) (x:α) (h:l[k]?=some x):l.take (k + 1)=l.take k ++ [x]:=by
 rw [List.take_add_one,h];rfl
theorem wide_fn (f:FuncId):Fence.wide.fn f=True:=rfl
attribute [local simp] wide_fn
section
variable {F:Fence} {n:Nat} {w:World} {ops:Array Oper} {rest:List Oper} {a:Act} {Q:Exit→Act→World→Prop} {dst:Option Tmp} {ty:TypeId} {pos:String} {after:Array Edge}
theorem load_naI (l:Nt) (x:Tmp) (g o:Nat) (hx:a.eval (.tmp x) = .pointer (some ⟨g,o,none⟩)) (hg:w.rangeAt g o (nt l))
  (h:wpListIn F n Tryz.prog ops Q rest (a.put dst (.agg (na l))) w):wpListIn F n Tryz.prog ops Q (⟨dst,.load 45 (.tmp x),ty,pos,after,none⟩ :: rest) a w:=by
 refine wpListIn_plain rfl fun K hK'=>?_
 have hrun:=run_loadAt_mid (P:=Tryz.prog) w g o 45 (nt l) _ hg Tryz.underlying45 rfl (info31' l)
 unfold Oper.wpIn
 refine ⟨?_,?_⟩
 ·intro f hf;simp [Oper.about] at hf
 ·rw [Oper.semAt_plain F _ _ (by intro c hc';cases hc')]
  simp only [execOp,hx,Sem.run_bind,hrun,Result.andThen_ok,Sem.run_pure]
  exact hK' _ _ h
theorem store_newI (l:Nt) (A:Array Value) (hA:na zn=A) (x y:Tmp) (hx:a.eval (.tmp x) = .pointer (some ⟨w.heap.size,0,none⟩)) (hy:a.eval (.tmp y) = .agg (na l))
  (h:wpListIn F n Tryz.prog ops Q rest (a.put dst undef) (w.alloc (.cells (na l) 45))):wpListIn F n Tryz.prog ops Q (⟨dst,.store 45 (.tmp x) (.tmp y),ty,pos,after,none⟩ :: rest) a (w.alloc (.cells A 45)):=by
 subst hA
 refine wpListIn_plain rfl fun K hK'=>?_
 have hrun:=run_storeAt_new (P:=Tryz.prog) w 45 (na zn) (na l) (info31a l) (by rw [na_size,na_size]) (na_one l)
 unfold Oper.wpIn
 refine ⟨?_,?_⟩
 ·intro f hf;simp [Oper.about] at hf
 ·rw [Oper.semAt_plain F _ _ (by intro c hc';cases hc')]
  simp only [execOp,hx,hy,Sem.run_bind,hrun,Result.andThen_ok,Sem.run_pure]
  exact hK' _ _ h
end
def encP (p:Nt × Nat):Array Value:=#[.int .i64 (p.2:Int),.agg (na p.1)]
theorem pall_in (n:Nat) (b:Nat) (w:World) :
  CallsIn Fence.wide n Tryz.prog 72 #[.pointer (some ⟨b,0,none⟩)] w fun e w'=>e = .returned (.func (.func 95) #[] #[.pointer (some ⟨w.heap.size,0,none⟩)])∧w'=w.alloc (.cells #[.pointer (some ⟨b,0,none⟩)] 80):=by
 refine callsIn_of_wp Tryz.func72 rfl trivial ?_ rfl
 simp only [Tryz.ntmps72,List.size_toArray,List.length_cons,List.length_nil,Nat.reduceAdd,Nat.reduceSub,Array.replicate_succ,Array.replicate_zero,List.push_toArray,List.append_toArray,List.nil_append,List.cons_append]
 gi_wp2
 go_ret
 exact ⟨rfl,rfl⟩
end Go.Proofs.YtenhdijbcdkfbaaGreatDoor.tt
