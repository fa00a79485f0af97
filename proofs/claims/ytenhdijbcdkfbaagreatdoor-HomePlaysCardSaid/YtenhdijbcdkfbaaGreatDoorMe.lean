/-
 A slice of elements of one cell that lies somewhere in a block, a pool that lies in a block of its own, what an append makes of such a slice, and what a call on a pool leaves alone: definitions and laws. No condition but the bounds that each theorem names.
 What isWord, laid, Block, Blocks answer: contracts. No condition but the bounds that each theorem names.
 What SetBlock, Word, SetWord answer, and what the memory is behind them: contracts. No condition but the bounds that each theorem names.
 What Word, SetWord answer, and what the memory is behind them: contracts. No condition but the bounds that each theorem names.
 What New, Copy answer, and the memories that they make: contracts. No condition but the bounds that each theorem names.
 What New, Copy answer, and the memories that they make: contracts. No condition but the bounds that each theorem names.
-/
import Derived.Test.YtenhdijbcdkfbaaGreatDoorTl
import Derived.Below
import Derived.Deep.AppendSrc
import Derived.RangeFuncBox
import Derived.BigQuiet
import Derived.Maps.AppendAt
import Derived.Test.YtenhdijbcdkfbaaGreatDoorRows
import Derived.WalkKit
import Derived.ProofKit
import Derived.OpenShut
import Derived.WalkLawsBesides
import Derived.Handy
import Derived.Lib.Hide
import Derived.LoopTactic
import Derived.Outline
import Derived.Deep.QuietTactic
import Derived.Deep.RegionLaw
import Derived.Deep.WholeRow
import Derived.WalkSpells
namespace Go.Proofs.YtenhdijbcdkfbaaGreatDoor.pp
set_option linter.unusedVariables false
set_option linter.unusedSimpArgs false
set_option maxRecDepth 1000000
set_option maxHeartbeats 16000000
open Go Go.RowKit
def Sl (w:World) (e:TypeId) (v:Value) (xs:List Value):Prop:=
 (v = .slice none 0 0∧xs=[]) ∨ ∃ g off cap cur,v = .slice (some ⟨g,off,none⟩) xs.length cap∧w.heap[g]?=some (.cells cur e (0,0))∧xs.length ≤ cap∧cap ≤ maxLen∧off + cap ≤ cur.size∧∀ (k:Nat) x,xs[k]?=some x→cur[off + k]?=some x
theorem Sl.nil (w:World) (e:TypeId):Sl w e (.slice none 0 0) []:= .inl ⟨rfl,rfl⟩
theorem Sl.of_block {w w':World} {e:TypeId} {v:Value} {xs:List Value} (h:Sl w e v xs) (hk:∀ g,v.ownBlock=some g→w'.heap[g]?=w.heap[g]?):Sl w' e v xs:=by
 rcases h with h | ⟨g,off,cap,cur,rfl,hg,h1,h2,h3,h4⟩
 ·exact .inl h
 ·exact .inr ⟨g,off,cap,cur,rfl,(hk g rfl).trans hg,h1,h2,h3,h4⟩
theorem Sl.lt {w:World} {e:TypeId} {v:Value} {xs:List Value} (h:Sl w e v xs) (g:Nat) (hg:v.ownBlock=some g):g < w.heap.size:=by
 rcases h with ⟨rfl,_⟩ | ⟨g',off,cap,cur,rfl,hb,_⟩
 ·simp [Value.ownBlock] at hg
 ·simp [Value.ownBlock] at hg;subst hg
  exact (Array.getElem?_eq_some_iff.1 hb).1
theorem Sl.form {w:World} {e:TypeId} {v:Value} {xs:List Value} (h:Sl w e v xs):∃ ad cap,v = .slice ad xs.length cap:=by
 rcases h with ⟨rfl,rfl⟩ | ⟨g,off,cap,cur,rfl,_⟩
 ·exact ⟨none,0,rfl⟩
 ·exact ⟨_,cap,rfl⟩
theorem Sl.form2 {w:World} {e:TypeId} {v:Value} {xs:List Value} (h:Sl w e v xs):∃ ad n cap,v = .slice ad n cap:=by
 obtain ⟨ad,cap,h⟩:=h.form
 exact ⟨ad,_,cap,h⟩
theorem Sl.cell {w:World} {e:TypeId} {v:Value} {xs:List Value} (h:Sl w e v xs) (k:Nat) (x:Value) (hk:xs[k]?=some x) :
  ∃ g off cap,v = .slice (some ⟨g,off,none⟩) xs.length cap∧w.cell? ⟨g,off + k,none⟩=some x:=by
 rcases h with ⟨rfl,rfl⟩ | ⟨g,off,cap,cur,rfl,hb,h1,h2,h3,h4⟩
 ·simp at hk
 ·exact ⟨g,off,cap,rfl,by simp [World.cell?,hb,h4 k x hk]⟩
theorem Sl.cellAt {w:World} {e:TypeId} {ad:Option Addr} {n cap:Nat} {xs:List Value} (h:Sl w e (.slice ad n cap) xs) (k:Nat) (x:Value) (hk:xs[k]?=some x) :
  ∃ g off,ad=some ⟨g,off,none⟩∧w.cell? ⟨g,off + k,none⟩=some x:=by
 obtain ⟨g,off,cap',hv,hc⟩:=h.cell k x hk
 cases hv
 exact ⟨g,off,rfl,hc⟩
theorem add_lit (g off j:Nat):(⟨g,off,none⟩:Addr).add j=⟨g,off + j,none⟩:=by unfold Addr.add;split <;> simp_all
theorem heap_setCells (b:Nat) (e:TypeId):∀ (vs:List Value) (o:Nat) (w:World) (cur:Array Value),w.heap[b]?=some (.cells cur e (0,0))→o + vs.length ≤ cur.size →
  ∃ cur',(w.setCells b o vs).heap[b]?=some (.cells cur' e (0,0))∧cur'.size=cur.size∧(∀ j,(j < o ∨ o + vs.length ≤ j)→cur'[j]?=cur[j]?)∧(∀ j u,vs[j]?=some u→cur'[o + j]?=some u)
 | [],o,w,cur,h,hs=>⟨cur,h,rfl,fun _ _=>rfl,fun j u hu=>by simp at hu⟩
 | v :: r,o,w,cur,h,hs=>by
  have h':(w.setCell ⟨b,o,none⟩ v).heap[b]?=some (.cells (cur.set! o v) e (0,0)):=by
   obtain ⟨hlt,hk⟩:=Array.getElem?_eq_some_iff.1 h
   show (w.heap.modify b _)[b]?=_
   rw [Array.getElem?_eq_getElem (by rw [Array.size_modify];exact hlt),Array.getElem_modify_self,hk]
   simp [Array.set!_eq_setIfInBounds]
  obtain ⟨cur',g1,g2,g3,g4⟩:=heap_setCells b e r (o + 1) _ _ h' (by simp at hs ⊢;omega)
  refine ⟨cur',g1,by rw [g2];simp,fun j hj=>?_,fun j u hu=>?_⟩
  ·rw [g3 j (by simp at hj ⊢;omega),Array.set!_eq_setIfInBounds,Array.getElem?_setIfInBounds,if_neg (by simp at hj;omega)]
  ·cases j with
   | zero=>
    simp at hu;subst hu
    rw [Nat.add_zero,g3 o (by omega),Array.set!_eq_setIfInBounds,Array.getElem?_setIfInBounds,if_pos rfl,if_pos (by simp at hs;omega)]
   | succ j=>
    have:=g4 j u (by simpa using hu)
    rw [show o + (j + 1)=o + 1 + j by omega];exact this
theorem heap_setCells_other (b:Nat) (k:Nat) (hk:k ≠ b):∀ (vs:List Value) (o:Nat) (w:World),(w.setCells b o vs).heap[k]?=w.heap[k]?
 | [],_,_=>rfl
 | v :: r,o,w=>by
  rw [World.setCells,heap_setCells_other b k hk r (o + 1)]
  exact Below.heap_setCell _ _ _ _ (by simpa using hk)
theorem setCells_rest (b:Nat):∀ (vs:List Value) (o:Nat) (w:World),(w.setCells b o vs).os=w.os∧(w.setCells b o vs).tape=w.tape∧(w.setCells b o vs).output=w.output∧(w.setCells b o vs).heap.size=w.heap.size
 | [],_,_=>⟨rfl,rfl,rfl,rfl⟩
 | v :: r,o,w=>by
  obtain ⟨h1,h2,h3,h4⟩:=setCells_rest b r (o + 1) (w.setCell ⟨b,o,none⟩ v)
  exact ⟨h1,h2,h3,by rw [World.setCells,h4];simp [World.setCell]⟩
def Next (w w':World) (v v':Value):Prop:=v'.ownBlock=v.ownBlock ∨ ∀ k,v'.ownBlock=some k→w.heap.size ≤ k
theorem Next.refl (w w':World) (v:Value):Next w w' v v:= .inl rfl
theorem Next.ne {w w':World} {v v':Value} (h:Next w w' v v') {k:Nat} (hk:k < w.heap.size) (hne:some k ≠ v.ownBlock):some k ≠ v'.ownBlock:=by
 rcases h with h | h
 ·rw [h];exact hne
 ·intro e;have:=h k e.symm;omega
section
variable {P:Program} (w:World)
theorem run_append_sl (t tx ty e:TypeId) (i:TypeInfo) (z:Value) (bytes:Nat) (ht:P.underlying t=some (.slice e)) (hi:P.info? e=some i) (hz:i.zero=some z) (hsize:i.size=1) (hby:i.bytes=bytes) (hzs:z.cells.size=1)
  (v:Value) (xs:List Value) (hsl:Sl w e v xs) (x:Value) (n:Nat) (news:List Value) (hs:Src P 1 tx x n news w) (h63:xs.length + n ≤ maxLen) (hbytes:(xs.length + n) * bytes ≤ 140737488355328) :
  ∃ v' w',(Builtin.append_ #[t,tx] ty #[v,x]).run P w = .ok v' w'∧Sl w' e v' (xs ++ news)∧w.grownBy w' v.ownBlock∧Next w w' v v':=by
 subst hby
 have hnl:news.length=n:=by rw [hs.newsLen,Nat.mul_one]
 have hs':Src P i.size tx x n news w:=by rw [hsize];exact hs
 have hsmall:xs.length + n ≤ 9223372036854775807:=by simp only [maxLen] at h63;omega
 have grow:∀ (base:Option Addr) (cap:Nat),v = .slice base xs.length cap→(Builtin.firstCells i.size xs.length v).run P w.drew = .ok xs.toArray w.drew→cap < xs.length + n →
   ∃ v' w',(Builtin.append_ #[t,tx] ty #[v,x]).run P w = .ok v' w'∧Sl w' e v' (xs ++ news)∧w.grownBy w' v.ownBlock∧Next w w' v v':=by
  intro base cap hv hold hg
  subst hv
  have hr:=run_append_grow_src (P:=P) w t tx ty e i z ht hi hz base xs.length cap xs hold x n news hs' hg (by omega) (growslice_fits hg hbytes)
  have hge:=grownCap_ge w (xs.length + n) cap e
  have hcm:=grownCap_le_maxLen w (xs.length + n) cap e h63
  refine ⟨_,_,hr,.inr ⟨w.heap.size,0,_,_,by rw [List.length_append,hnl],heap_alloc_new w.drew _,by rw [List.length_append,hnl];exact hge,hcm,?_,fun k u hu=>?_⟩,⟨rfl,rfl,rfl,by simp,fun k hk _=>Below.heap_alloc w.drew _ k hk⟩,.inr fun k hk=>?_⟩
  ·simp only [Array.size_append,List.size_toArray,List.length_append,size_zeroCells,hzs,hnl];omega
  ·obtain ⟨hlt,hu'⟩:=List.getElem?_eq_some_iff.1 hu
   rw [Array.getElem?_append_left (by simpa using hlt)]
   simpa using hu
  ·simp [Value.ownBlock] at hk;omega
 rcases hsl with ⟨rfl,rfl⟩ | ⟨g,off,cap,cur,rfl,hb,h1,h2,h3,h4⟩
 ·by_cases hn:n=0
  ·subst hn
   obtain rfl:news=[]:=List.eq_nil_of_length_eq_zero hnl
   refine ⟨.slice none 0 0,w,?_,Sl.nil w e,⟨rfl,rfl,rfl,Nat.le_refl _,fun _ _ _=>rfl⟩,.inl rfl⟩
   have hc:=hs'.cells
   rcases hs'.kind with ⟨e',hk⟩ | hk <;> simp [Builtin.append_,run_underlying ht,run_underlying hk,sizeOf,typeInfo,hi,hs'.len,hc]
  ·exact grow none 0 rfl (run_firstCells_none w.drew i.size 0 0 0) (by simp;omega)
 ·by_cases hroom:xs.length + n ≤ cap
  ·have hfit:off + xs.length + news.length ≤ cur.size:=by omega
   have hr:=run_append_room_src (P:=P) w t tx ty e i ht hi g off xs.length cap x n news hs' hroom
    (fun j hj=>by rw [hsize,Nat.mul_one];simp [World.cell?,hb];omega) (fun j hj=>by simp [World.frozen?,hb])
   rw [hsize,Nat.mul_one] at hr
   obtain ⟨cur',g1,g2,g3,g4⟩:=heap_setCells g e news (off + xs.length) w cur hb hfit
   obtain ⟨r1,r2,r3,r4⟩:=setCells_rest g news (off + xs.length) w
   refine ⟨_,_,hr,.inr ⟨g,off,cap,cur',by rw [List.length_append,hnl],g1,by rw [List.length_append,hnl];exact hroom,h2,by omega,fun k u hu=>?_⟩,⟨r1,r2,r3,by omega,fun k _ hk=>heap_setCells_other g k (fun e=>hk (by simp [Value.ownBlock,e])) _ _ _⟩,.inl rfl⟩
   rw [List.getElem?_append] at hu
   split at hu
   ·rename_i hlt
    rw [g3 _ (by omega)];exact h4 k u hu
   ·rename_i hge
    have:=g4 (k - xs.length) u hu
    rw [show off + k=off + xs.length + (k - xs.length) by omega];exact this
  ·refine grow _ cap rfl ?_ (by omega)
   refine run_firstCells_some w.drew i.size xs.length ⟨g,off,none⟩ xs.length cap xs (by rw [hsize,Nat.mul_one]) fun j u hu=>?_
   rw [add_lit,World.cell?_drew]
   simp [World.cell?,hb,h4 j u hu]
end
theorem Sl.src {P:Program} {w:World} {e:TypeId} {v:Value} {xs:List Value} (h:Sl w e v xs) {tx e':TypeId} (hk:P.underlying tx=some (.slice e')) (h1:∀ u ∈ xs,u.oneCell'=true):Src P 1 tx v xs.length xs w:=by
 rcases h with ⟨rfl,rfl⟩ | ⟨g,off,cap,cur,rfl,hb,_,_,_,h4⟩
 ·exact Src.ofNil w hk 0
 ·refine Src.ofSlice w hk ⟨g,off,none⟩ xs.length cap xs (by rw [Nat.mul_one]) (fun j u hu=>?_) h1
  rw [add_lit];simp [World.cell?,hb,h4 j u hu]
theorem wpList_append_sl {P:Program} {w:World} {ops:Array Oper} {rest:List Oper} {o:Oper} {a:Act} {Q:Exit→Act→World→Prop} (hgd:o.guard=none) (s x:Operand) (t tx:TypeId)
  (ho:o.op = .call { callee:= .builtin .append,args:=#[s,x],argTypes:=#[t,tx] }) (e:TypeId) (i:TypeInfo) (z:Value) (bytes:Nat) (ht:P.underlying t=some (.slice e)) (hi:P.info? e=some i) (hz:i.zero=some z) (hsize:i.size=1) (hby:i.bytes=bytes) (hzs:z.cells.size=1)
  (v:Value) (xs:List Value) (hsv:a.eval s=v) (hsl:Sl w e v xs) (n:Nat) (news:List Value) (hs:Src P 1 tx (a.eval x) n news w) (h63:xs.length + n ≤ maxLen) (hbytes:(xs.length + n) * bytes ≤ 140737488355328)
  (h:∀ v' w',Sl w' e v' (xs ++ news)→w.grownBy w' v.ownBlock→Next w w' v v'→wpList P ops Q rest (a.put o.dst v') w'):wpList P ops Q (o :: rest) a w:=
 wpList_plain hgd fun K hK=>by
  obtain ⟨v',w',hr,r1,r2,r3⟩:=run_append_sl (P:=P) w t tx o.type e i z bytes ht hi hz hsize hby hzs v xs hsl (a.eval x) n news hs h63 hbytes
  unfold Oper.wp execOp
  simp only [ho,resolve,invoke,builtin,Sem.run_bind,Sem.run_pure,Result.andThen_ok,List.map_toArray,List.map_cons,List.map_nil,hsv,hr]
  exact hK _ _ (h v' w' r1 r2 r3)
theorem step_append_sl {P:Program} {w:World} {ops:Array Oper} {o:Oper} {a:Act} {K:Act→World→Prop} {Q:Exit→Act→World→Prop} {E:Prop} (hgd:o.guard=none) (s x:Operand) (t tx:TypeId)
  (ho:o.op = .call { callee:= .builtin .append,args:=#[s,x],argTypes:=#[t,tx] }) (e:TypeId) (i:TypeInfo) (z:Value) (bytes:Nat) (ht:P.underlying t=some (.slice e)) (hi:P.info? e=some i) (hz:i.zero=some z) (hsize:i.size=1) (hby:i.bytes=bytes) (hzs:z.cells.size=1)
  (v:Value) (xs:List Value) (hsv:a.eval s=v) (hsl:Sl w e v xs) (n:Nat) (news:List Value) (hs:Src P 1 tx (a.eval x) n news w) (h63:xs.length + n ≤ maxLen) (hbytes:(xs.length + n) * bytes ≤ 140737488355328)
  (h:∀ v' w',Sl w' e v' (xs ++ news)→w.grownBy w' v.ownBlock→Next w w' v v'→K (a.put o.dst v') w'):if Region.wanted o (yielded ops a.tmps)=true then Oper.wp P o a w K Q else E:=by
 have hw:Region.wanted o (yielded ops a.tmps)=true:=by simp [Region.wanted,hgd]
 rw [if_pos hw]
 obtain ⟨v',w',hr,r1,r2,r3⟩:=run_append_sl (P:=P) w t tx o.type e i z bytes ht hi hz hsize hby hzs v xs hsl (a.eval x) n news hs h63 hbytes
 unfold Oper.wp execOp
 simp only [ho,resolve,invoke,builtin,Sem.run_bind,Sem.run_pure,Result.andThen_ok,List.map_toArray,List.map_cons,List.map_nil,hsv,hr]
 exact h v' w' r1 r2 r3
theorem src_one {P:Program} {t:TypeId} (W:World) (x:Value) (o:TypeId) {e':TypeId} (hk:P.underlying t=some (.slice e')) (h1:x.oneCell'=true):Src P 1 t (.slice (some ⟨W.heap.size,0,none⟩) 1 1) 1 [x] (W.alloc (.cells #[x] o)):=
 Src.ofSlice _ hk ⟨W.heap.size,0,none⟩ 1 1 [x] rfl (fun j u hj=>by
  cases j with
  | zero=>simp at hj;subst hj;simp [add_lit]
  | succ j=>simp at hj) (by simp [h1])
theorem head_sl {w:World} {e:TypeId} {g off cap:Nat} {xs:List Value} (hsl:Sl w e (.slice (some ⟨g,off,none⟩) xs.length cap) xs) (i:Nat) (hi:i ≤ xs.length):Sl w e (.slice (some ⟨g,off,none⟩) i i) (xs.take i):=by
 rcases hsl with ⟨h,_⟩ | ⟨g',off',cap',cur,h,hb,h2,h3,h4,h5⟩
 ·cases h
 ·cases h
  have hd:(xs.take i).length=i:=by rw [List.length_take];omega
  refine .inr ⟨g,off,i,cur,by rw [hd],hb,by omega,by omega,by omega,fun k u hu=>?_⟩
  rw [List.getElem?_take] at hu
  split at hu
  ·exact h5 k u hu
  ·cases hu
end Go.Proofs.YtenhdijbcdkfbaaGreatDoor.pp
namespace Go.Proofs.YtenhdijbcdkfbaaGreatDoor.pp
set_option linter.unusedVariables false
set_option linter.unusedSimpArgs false
set_option maxRecDepth 1000000
set_option maxHeartbeats 16000000
open Go Go.ChangeShapes Go.WideShapes Go.ChangeAt Go.RowKit
theorem laid_any (cs:Array Value) (w:World):Calls Tryz.prog 93 #[.agg cs] w fun e w'=>e = .returned (.pointer (some ⟨w.heap.size,0,none⟩))∧w'=w.alloc (.cells cs 43):=by
 go_enter Tryz.func93,Tryz.ntmps93
 go_wp2
 go_ret
 exact ⟨rfl,rfl⟩
def U (x:Int):Value:= .int .u32 x
def row (x:List Int):Array Value:=(x.map U).toArray
def Ptr (q:Nat):Value:= .pointer (some ⟨q,0,none⟩)
def zero:List Int:=List.replicate 16 0
theorem row_size (x:List Int):(row x).size=x.length:=by simp [row]
theorem row_get (x:List Int) (k:Nat):(row x)[k]?=(x[k]?).map U:=by simp [row]
theorem row_set (x:List Int) (k:Nat) (y:Int):(row x).setIfInBounds k (U y)=row (x.set k y):=by simp [row]
theorem row_one (x:List Int):(row x).all (·.oneCell')=true:=by
 simp [row,U,Value.oneCell']
theorem zero_size:zero.length=16:=rfl
theorem info30:(Tryz.prog.info? 43).map (·.size)=some 16:=by kernel_rfl
theorem info30' (x:List Int) (h:x.length=16):(Tryz.prog.info? 43).map (·.size)=some (row x).size:=by rw [row_size,h];exact info30
structure Mem (w:World) (b:Nat) (v:Value) (bs:List (List Int)):Prop where
 blk:w.heap[b]?=some (.cells #[v] 75 (0,0))
 sl:∃ ps:List Nat,Sl w 73 v (ps.map Ptr)∧ps.length=bs.length∧∀ (i:Nat) q x,ps[i]?=some q→bs[i]?=some x→w.heap[q]?=some (.cells (row x) 43 (0,0))
 len:∀ x ∈ bs,x.length=16
theorem Mem.lt {w:World} {b:Nat} {v:Value} {bs:List (List Int)} (h:Mem w b v bs):b < w.heap.size:=(Array.getElem?_eq_some_iff.1 h.blk).1
theorem Mem.cell0 {w:World} {b:Nat} {v:Value} {bs:List (List Int)} (h:Mem w b v bs):w.cell? ⟨b,0,none⟩=some v:=by simp [World.cell?,h.blk]
theorem Mem.form {w:World} {b:Nat} {v:Value} {bs:List (List Int)} (h:Mem w b v bs):∃ ad cap,v = .slice ad bs.length cap:=by
 obtain ⟨ps,h1,h2,_⟩:=h.sl
 obtain ⟨ad,cap,h3⟩:=h1.form
 exact ⟨ad,cap,by rw [h3,List.length_map,h2]⟩
theorem Mem.at {w:World} {b:Nat} {v:Value} {bs:List (List Int)} (h:Mem w b v bs) {i:Nat} {x:List Int} (hx:bs[i]?=some x) :
  ∃ g off cap q,v = .slice (some ⟨g,off,none⟩) bs.length cap∧w.cell? ⟨g,off + i,none⟩=some (.pointer (some ⟨q,0,none⟩))∧w.heap[q]?=some (.cells (row x) 43 (0,0))∧x.length=16:=by
 obtain ⟨ps,h1,h2,h3⟩:=h.sl
 have hi:i < ps.length:=by rw [h2];exact (List.getElem?_eq_some_iff.1 hx).1
 obtain ⟨g,off,cap,hv,hc⟩:=h1.cell i (Ptr ps[i]) (by rw [List.getElem?_map,List.getElem?_eq_getElem hi];rfl)
 exact ⟨g,off,cap,ps[i],by rw [hv,List.length_map,h2],hc,h3 i _ x (List.getElem?_eq_getElem hi) hx,h.len x (List.mem_of_getElem? hx)⟩
theorem blocks_any (b:Nat) (v:Value) (bs:List (List Int)) (w:World) (hM:Mem w b v bs):Calls Tryz.prog 27 #[.pointer (some ⟨b,0,none⟩)] w fun e w'=>e = .returned (.int .i64 (bs.length:Int))∧w=w':=by
 obtain ⟨ad,cap,rfl⟩:=hM.form
 have hc:=hM.cell0
 clear hM
 go_enter Tryz.func27,Tryz.ntmps27
 go_wp2
 go_ret
 exact ⟨rfl,rfl⟩
theorem ret_row (w:World) (x:List Int) (h:x.length=16) (n:Int) (tmps:Array Value) (Q:Ending→World→Prop) (h4:tmps.getD 4 undef = .pointer (some ⟨w.heap.size,0,none⟩)) (h5:tmps.getD 5 undef = .int .i64 n)
  (hQ:Q (.returned (.tuple #[.agg (row x),.int .i64 n])) (w.alloc (.cells (row x) 43))):bodyPost Tryz.prog Tryz.f19 Q .ret { tmps:=tmps,defers:=[] } (w.alloc (.cells (row x) 43)):=by
 refine bodyPost_ret (v:= .tuple #[.agg (row x),.int .i64 n]) ?_ rfl hQ
 rw [results_cell_tmp rfl,h4,h5]
 have:=run_loadVar_new (P:=Tryz.prog) w 43 (row x) 16 41 Tryz.underlying43 (info30' _ h)
 simp [asAddr,Result.andThen,this]
theorem block_out (b:Nat) (v:Value) (bs:List (List Int)) (i:Int) (w:World) (hM:Mem w b v bs) (h:i < 0 ∨ (bs.length:Int) ≤ i):Calls Tryz.prog 19 #[.pointer (some ⟨b,0,none⟩),.int .i64 i] w fun e w'=>e = .returned (.tuple #[.agg (row zero),.int .i64 5])∧w'=w.alloc (.cells (row zero) 43):=by
 obtain ⟨ad,cap,rfl⟩:=hM.form
 have hc:=hM.cell0
 have hbl:b < w.heap.size:=block_lt_of_cell hc
 clear hM
 obtain ⟨q,hq⟩:∃ q,q=bs.length:=⟨_,rfl⟩
 rw [← hq] at hc h
 clear hq
 by_cases h0:i < 0
 ·clear h
  go_enter Tryz.func19,Tryz.ntmps19
  go_wp2
  exact ret_row w zero rfl 5 _ _ (by rfl) (by rfl) (by exact ⟨rfl,rfl⟩)
 ·have h1:decide (i < 0)=false:=by simp;omega
  have h2:decide ((q:Int) ≤ i)=true:=by simp;omega
  clear h h0
  go_enter Tryz.func19,Tryz.ntmps19
  go_wp2
  exact ret_row w zero rfl 5 _ _ (by rfl) (by rfl) (by exact ⟨rfl,rfl⟩)
theorem block_in (b:Nat) (v:Value) (bs:List (List Int)) (i:Nat) (x:List Int) (w:World) (hM:Mem w b v bs) (hx:bs[i]?=some x):Calls Tryz.prog 19 #[.pointer (some ⟨b,0,none⟩),.int .i64 (i:Int)] w fun e w'=>e = .returned (.tuple #[.agg (row x),.int .i64 0])∧w'=w.alloc (.cells (row x) 43):=by
 obtain ⟨g,off,cap,q,rfl,hcell,hq,hl⟩:=hM.at hx
 have hc:=hM.cell0
 have hi:i < bs.length:=(List.getElem?_eq_some_iff.1 hx).1
 obtain ⟨n,hn⟩:∃ n,n=bs.length:=⟨_,rfl⟩
 rw [← hn] at hc hi
 have HQ:=qh hq
 have HL:=qh hl
 have hql:q < w.heap.size:=(Array.getElem?_eq_some_iff.1 hq).1
 have hbl:b < w.heap.size:=block_lt_of_cell hc
 have hgl:g < w.heap.size:=block_lt_of_cell hcell
 clear hM hx hn hq hl
 go_enter Tryz.func19,Tryz.ntmps19
 go_wp2_with (first
  | (refine wpList_load_row (by rfl) 43 _ (by rfl) q (by rfl) 43 (row x) (0,0) _ ((Below.heap_alloc _ _ _ hql).trans HQ.out) Tryz.underlying43 rfl (info30' _ HL.out) ?_)
  | (refine wpList_store_row (by rfl) 43 _ _ (by rfl) w.heap.size (row x) (by rfl) (by rfl) 43 _ (heap_alloc_new _ _) (info30' _ HL.out) (by rw [row_size,HL.out];rfl) (row_one x) ?_;rw [World.setRow_alloc_new]))
 exact ret_row w x HL.out 0 _ _ (by rfl) (by rfl) (by exact ⟨rfl,rfl⟩)
end Go.Proofs.YtenhdijbcdkfbaaGreatDoor.pp
namespace Go.Proofs.YtenhdijbcdkfbaaGreatDoor.pp
set_option linter.unusedVariables false
set_option linter.unusedSimpArgs false
set_option maxRecDepth 1000000
set_option maxHeartbeats 16000000
open Go Go.ChangeShapes Go.WideShapes Go.ChangeAt Go.RowKit
theorem tyne {w:World} {k q:Nat} {c1 c2:Array Value} {t1 t2:TypeId} {f1 f2:Nat × Nat} (h1:w.heap[k]?=some (.cells c1 t1 f1)) (h2:w.heap[q]?=some (.cells c2 t2 f2)) (h:t1 ≠ t2):k ≠ q:=fun e=>by
 subst e;rw [h1] at h2;cases h2;exact h rfl
theorem Mem.grown {w w':World} {b:Nat} {v:Value} {bs:List (List Int)} (h:Mem w b v bs) {own:Option Nat} (hg:w.grownBy w' own)
  (hk:∀ k,own=some k→some k ≠ v.ownBlock∧∃ c t f,w.heap[k]?=some (.cells c t f)∧t ≠ 75∧t ≠ 43):Mem w' b v bs:=by
 obtain ⟨ps,h1,h2,h3⟩:=h.sl
 refine ⟨(hg.block b h.lt fun e=>?_).trans h.blk,⟨ps,h1.of_block fun g hgk=>hg.block g (h1.lt g hgk) fun e=>?_,h2,fun i q x hq hx=>(hg.block q ?_ fun e=>?_).trans (h3 i q x hq hx)⟩,h.len⟩
 ·obtain ⟨_,c,t,f,hc,ht,_⟩:=hk b e.symm
  exact tyne hc h.blk ht rfl
 ·exact (hk g e.symm).1 hgk.symm
 ·exact (Array.getElem?_eq_some_iff.1 (h3 i q x hq hx)).1
 ·obtain ⟨_,c,t,f,hc,_,ht⟩:=hk q e.symm
  exact tyne hc (h3 i q x hq hx) ht rfl
theorem Mem.kept {w w':World} {b:Nat} {v:Value} {bs:List (List Int)} (h:Mem w b v bs) (hg:w.grownBy w' none):Mem w' b v bs:=h.grown hg fun k e=>by cases e
theorem grown_alloc {w w':World} {own:Option Nat} (h:w.grownBy w' own) (o:Obj):w.grownBy (w'.alloc o) own:=
 ⟨h.os,h.tape,h.output,by have:=h.size;simp;omega,fun k hk hn=>(Below.heap_alloc _ _ _ (Nat.lt_of_lt_of_le hk h.size)).trans (h.block k hk hn)⟩
theorem grown_refl (w:World) (own:Option Nat):w.grownBy w own:=⟨rfl,rfl,rfl,Nat.le_refl _,fun _ _ _=>rfl⟩
theorem grown_trans {a b c:World} {own:Option Nat} (h:a.grownBy b own) (k:b.grownBy c own):a.grownBy c own:=
 ⟨k.os.trans h.os,k.tape.trans h.tape,k.output.trans h.output,Nat.le_trans h.size k.size,fun i hi hn=>(k.block i (Nat.lt_of_lt_of_le hi h.size) hn).trans (h.block i hi hn)⟩
theorem grown_some {a b:World} (h:a.grownBy b none) (own:Option Nat):a.grownBy b own:=⟨h.os,h.tape,h.output,h.size,fun i hi hn=>h.block i hi (by simp)⟩
theorem Mem.put {w w1:World} {b:Nat} {g off cap n:Nat} {bs:List (List Int)} (h:Mem w b (.slice (some ⟨g,off,none⟩) n cap) bs) (hg:w.grownBy w1 none) {i q:Nat} {x:List Int} (hi:i < bs.length) (hx:x.length=16)
  (hq:w1.heap[q]?=some (.cells (row x) 43 (0,0))) :
  w1.frozen? ⟨g,off + i,none⟩=false∧Mem (w1.setCell ⟨g,off + i,none⟩ (.pointer (some ⟨q,0,none⟩))) b (.slice (some ⟨g,off,none⟩) n cap) (bs.set i x)∧w.grownBy (w1.setCell ⟨g,off + i,none⟩ (.pointer (some ⟨q,0,none⟩))) (some g):=by
 have h0:=h.kept hg
 obtain ⟨ps,h1,h2,h3⟩:=h0.sl
 rcases h1 with ⟨hv,_⟩ | ⟨g',off',cap',cur,hv,hb,h4,h5,h6,h7⟩
 ·cases hv
 cases hv
 have hcell:(w1.setCell ⟨g,off + i,none⟩ (Ptr q)).heap[g]?=some (.cells (cur.setIfInBounds (off + i) (Ptr q)) 73 (0,0)):=heap_setCell_same _ _ _ _ _ _ hb
 have hoth:∀ k,k ≠ g→(w1.setCell ⟨g,off + i,none⟩ (Ptr q)).heap[k]?=w1.heap[k]?:=fun k hk=>heap_setCell_other _ _ _ _ hk
 simp only [List.length_map] at h4
 refine ⟨frozen_of_row _ _ _ _ _ hb,⟨(hoth b (tyne h0.blk hb (by decide))).trans h0.blk,⟨ps.set i q,.inr ⟨g,off,cap,_,by simp,hcell,by simp;omega,h5,by simp;omega,fun k u hu=>?_⟩,by simp [h2],fun k p y hp hy=>?_⟩,fun y hy=>?_⟩,⟨hg.os,hg.tape,hg.output,by have:=hg.size;simp [World.setCell];omega,fun k hk hn=>(hoth k (fun e=>hn (by rw [e]))).trans (hg.block k hk (by simp))⟩⟩
 ·rw [List.map_set] at hu
  rw [Array.getElem?_setIfInBounds]
  by_cases hki:i=k
  ·subst hki
   rw [if_pos rfl,if_pos (by omega)]
   rw [List.getElem?_set_self (by simp;omega)] at hu
   exact hu
  ·rw [if_neg (by omega)]
   rw [List.getElem?_set_ne hki] at hu
   exact h7 k u hu
 ·have hpg:∀ z,w1.heap[p]?=some (.cells (row z) 43 (0,0))→(w1.setCell ⟨g,off + i,none⟩ (Ptr q)).heap[p]?=some (.cells (row z) 43 (0,0)):=fun z hz=>(hoth p (tyne hz hb (by decide))).trans hz
  by_cases hki:i=k
  ·subst hki
   rw [List.getElem?_set_self (by omega)] at hp hy
   cases hp;cases hy
   exact hpg _ hq
  ·rw [List.getElem?_set_ne hki] at hp hy
   exact hpg _ (h3 k p y hp hy)
 ·rcases List.mem_or_eq_of_mem_set hy with hy | rfl
  ·exact h.len y hy
  ·exact hx
theorem all_range_eqU:∀ (xs ys:List Int),xs.length=ys.length→((List.range xs.length).all fun i=>xs.getD i 0 == ys.getD i 0)=(xs == ys)
 | [],[],_=>rfl
 | x :: xs,y :: ys,h=>by
  have ih:=all_range_eqU xs ys (by simpa using h)
  rw [List.length_cons,List.range_succ_eq_map,List.all_cons,List.all_map]
  simp only [List.getD_cons_zero,Function.comp_def,List.getD_cons_succ,ih]
  simp [List.cons_beq_cons]
 | [],_ :: _,h=>by simp at h
 | _ :: _,[],h=>by simp at h
theorem eq30 (w:World) (d:Nat) (xs ys:List Int) (hx:xs.length=16) (hy:ys.length=16) :
  (Op.equalIn (d + 2) 43 (.agg (row xs)) (.agg (row ys))).run Tryz.prog w = .ok (xs == ys) w:=by
 rw [← all_range_eqU xs ys (hx.trans hy.symm),hx,List.range_eq_range',Op.equalIn]
 simp only [Sem.run_bind,run_underlying Tryz.underlying43,Result.andThen_ok,Tryz.sizeOf41,Std.Legacy.Range.forIn_eq_forIn_range',Std.Legacy.Range.size,Nat.sub_zero,Nat.add_sub_cancel,Nat.div_one]
 have hl:∀ i ∈ List.range' 0 16 1,i < 16:=fun i hi=>by simpa using (List.mem_range'_1.1 hi).2
 generalize List.range' 0 16 1=l at hl ⊢
 induction l with
 | nil=>simp
 | cons i l ih=>
  have hi:i < 16:=hl i (by simp)
  have px:(part 41 (row xs) (i * 1)).run Tryz.prog w = .ok (U (xs.getD i 0)) w:=by
   simp [part,isAgg,run_underlying Tryz.underlying41,row,List.getD,List.getElem?_eq_getElem (show i < xs.length by omega)]
  have py:(part 41 (row ys) (i * 1)).run Tryz.prog w = .ok (U (ys.getD i 0)) w:=by
   simp [part,isAgg,run_underlying Tryz.underlying41,row,List.getD,List.getElem?_eq_getElem (show i < ys.length by omega)]
  have pe:(Op.equalIn (d + 1) 41 (U (xs.getD i 0)) (U (ys.getD i 0))).run Tryz.prog w = .ok (xs.getD i 0 == ys.getD i 0) w:=by
   rw [U,U,run_equalIn_int w d 41 .u32 .u32 _ _ Tryz.underlying41]
  simp only [List.forIn_cons,Sem.run_bind,px,py,pe,Result.andThen_ok,List.all_cons]
  cases hb:(xs.getD i 0 == ys.getD i 0)
  ·simp
  ·simp only [Bool.not_true,Bool.false_eq_true,if_false,Sem.run_pure,Result.andThen_ok,Bool.true_and]
   exact ih fun j hj=>hl j (by simp [hj])
theorem q30 (w:World) (x y:List Int) (hx:x.length=16) (hy:y.length=16):(binOp .neq 43 (.agg (row x)) (.agg (row y))).run Tryz.prog w = .ok (.bool (!(x == y))) w:=by
 rw [run_neq_struct,eq30 w 9998 x y hx hy]
 rfl
section
variable {w:World} {ops:Array Oper} {rest:List Oper} {a:Act} {Q:Exit→Act→World→Prop} {dst:Option Tmp} {ty:TypeId} {pos:String} {after:Array Edge}
theorem store_new (c:List Int) (x y:Tmp) (hx:a.eval (.tmp x) = .pointer (some ⟨w.heap.size,0,none⟩)) (hy:a.eval (.tmp y) = .agg (row c)) (hc:c.length=16)
  (h:wpList Tryz.prog ops Q rest (a.put dst undef) (w.alloc (.cells (row c) 43))):wpList Tryz.prog ops Q (⟨dst,.store 43 (.tmp x) (.tmp y),ty,pos,after,none⟩ :: rest) a (w.alloc (.cells (row zero) 43)):=by
 refine wpList_store_row rfl 43 (.tmp x) (.tmp y) rfl w.heap.size (row c) hx hy 43 _ (heap_alloc_new _ _) (info30' _ hc) (by rw [row_size,row_size,hc];rfl) (row_one c) ?_
 rw [World.setRow_alloc_new];exact h
theorem store_new' (c:List Int) (x y:Tmp) (hx:a.eval (.tmp x) = .pointer (some ⟨w.heap.size,0,none⟩)) (hy:a.eval (.tmp y) = .agg (row c)) (hc:c.length=16)
  (h:wpList Tryz.prog ops Q rest (a.put dst undef) (w.alloc (.cells (row c) 43))):wpList Tryz.prog ops Q (⟨dst,.store 43 (.tmp x) (.tmp y),ty,pos,after,none⟩ :: rest) a (w.alloc (.cells #[.int .u32 0,.int .u32 0,.int .u32 0,.int .u32 0,.int .u32 0,.int .u32 0,.int .u32 0,.int .u32 0,.int .u32 0,.int .u32 0,.int .u32 0,.int .u32 0,.int .u32 0,.int .u32 0,.int .u32 0,.int .u32 0] 43)):=
 store_new c x y hx hy hc h
theorem store_any (c c':List Int) (x y:Tmp) (g:Nat) (hx:a.eval (.tmp x) = .pointer (some ⟨g,0,none⟩)) (hy:a.eval (.tmp y) = .agg (row c)) (hc:c.length=16)
  (hg:w.heap[g]?=some (.cells (row c') 43 (0,0))) (hc':c'.length=16)
  (h:wpList Tryz.prog ops Q rest (a.put dst undef) (w.setRow g (row c))):wpList Tryz.prog ops Q (⟨dst,.store 43 (.tmp x) (.tmp y),ty,pos,after,none⟩ :: rest) a w:=
 wpList_store_row rfl 43 (.tmp x) (.tmp y) rfl g (row c) hx hy 43 _ hg (info30' _ hc) (by rw [row_size,row_size,hc,hc']) (row_one c) h
theorem load_any (c:List Int) (x:Tmp) (g:Nat) (hx:a.eval (.tmp x) = .pointer (some ⟨g,0,none⟩)) (hg:w.heap[g]?=some (.cells (row c) 43 (0,0))) (hc:c.length=16)
  (h:wpList Tryz.prog ops Q rest (a.put dst (.agg (row c))) w):wpList Tryz.prog ops Q (⟨dst,.load 43 (.tmp x),ty,pos,after,none⟩ :: rest) a w:=
 wpList_load_row rfl 43 (.tmp x) rfl g hx 43 (row c) (0,0) _ hg Tryz.underlying43 rfl (info30' _ hc) h
end
theorem row16 (x:List Int) (hx:x.length=16):∃ x0 x1 x2 x3 x4 x5 x6 x7 x8 x9 x10 x11 x12 x13 x14 x15:Int,row x=#[.int .u32 x0,.int .u32 x1,.int .u32 x2,.int .u32 x3,.int .u32 x4,.int .u32 x5,.int .u32 x6,.int .u32 x7,.int .u32 x8,.int .u32 x9,.int .u32 x10,.int .u32 x11,.int .u32 x12,.int .u32 x13,.int .u32 x14,.int .u32 x15]:=
 match x,hx with
 | [x0,x1,x2,x3,x4,x5,x6,x7,x8,x9,x10,x11,x12,x13,x14,x15],_=>⟨x0,x1,x2,x3,x4,x5,x6,x7,x8,x9,x10,x11,x12,x13,x14,x15,rfl⟩
theorem set_block_err (b:Nat) (v:Value) (bs:List (List Int)) (i:Int) (x:List Int) (hx:x.length=16) (w:World) (hM:Mem w b v bs) (h:i < 0 ∨ (bs.length:Int) ≤ i) :
  Calls Tryz.prog 70 #[.pointer (some ⟨b,0,none⟩),.int .i64 i,.agg (row x)] w fun e w'=>e = .returned (.int .i64 5)∧w.grownBy w' none:=by
 have hg:w.grownBy (w.alloc (.cells (row x) 43)) none:=grown_alloc (grown_refl _ _) _
 have HB:=qh (block_out b v bs i _ (hM.kept hg) h)
 clear hM h hg hx
 go_enter Tryz.func70,Tryz.ntmps70
 go_wp2_with (first
  | (go_at_call 19;((with_reducible refine HB.out.mono ?_);rintro e w1 ⟨rfl,hw1⟩;have HW:=qh hw1;clear hw1))
  | ((with_reducible refine store_new' zero 7 13 ?_ ?_ zero_size ?_);(rfl);(rfl)))
 go_ret
 refine ⟨rfl,?_⟩
 rw [HW.out]
 exact grown_alloc (grown_alloc (grown_alloc (grown_refl _ _) _) _) _
theorem set_block_in (b:Nat) (v:Value) (bs:List (List Int)) (i:Nat) (x:List Int) (hx:x.length=16) (w:World) (hM:Mem w b v bs) (hi:i < bs.length) :
  Calls Tryz.prog 70 #[.pointer (some ⟨b,0,none⟩),.int .i64 (i:Int),.agg (row x)] w fun e w'=>e = .returned (.int .i64 0)∧Mem w' b v (bs.set i x)∧w.grownBy w' v.ownBlock:=by
 obtain ⟨old,hold⟩:∃ old,bs[i]?=some old:=⟨_,List.getElem?_eq_getElem hi⟩
 have hg:w.grownBy (w.alloc (.cells (row x) 43)) none:=grown_alloc (grown_refl _ _) _
 obtain ⟨g,off,cap,q,rfl,hcell,hq,hl⟩:=hM.at hold
 have HB:=qh (block_in b _ bs i old _ (hM.kept hg) hold)
 have HX:=qh hx
 have HL:=qh hl
 have HM:=qh hM
 have HO:=qh hold
 have HI:=qh hi
 by_cases he:old=x
 ·have HE:=qh he
  have h30:∀ w,(binOp .neq 43 (.agg (row old)) (.agg (row x))).run Tryz.prog w = .ok (.bool false) w:=fun w=>by rw [q30 w old x hl hx,he];simp
  clear hM hi hold hq hx hl hg he hcell
  go_enter Tryz.func70,Tryz.ntmps70
  go_wp2_with (first
   | (go_at_call 19;((with_reducible refine HB.out.mono ?_);rintro e w1 ⟨rfl,hw1⟩;have HW:=qh hw1;clear hw1))
   | ((with_reducible refine store_new' old 7 13 ?_ ?_ HL.out ?_);(rfl);(rfl))
   | ((with_reducible refine load_any old 7 w1.heap.size ?_ ?_ HL.out ?_);(rfl);(exact heap_alloc_new _ _))
   | ((with_reducible refine load_any x 5 w.heap.size ?_ ?_ HX.out ?_);(rfl);(exact (Below.heap_alloc _ _ _ (by rw [HW.out];simp;omega)).trans (by rw [HW.out];exact (Below.heap_alloc _ _ _ (by simp)).trans (heap_alloc_new _ _)))))
  go_ret
  have hG:w.grownBy (w1.alloc (.cells (row old) 43)) none:=by rw [HW.out];exact grown_alloc (grown_alloc (grown_alloc (grown_refl _ _) _) _) _
  have hset:bs.set i x=bs:=by
   obtain ⟨h1,h2⟩:=List.getElem?_eq_some_iff.1 HO.out
   rw [← HE.out,← h2];exact List.set_getElem_self h1
  refine ⟨rfl,by rw [hset];exact HM.out.kept hG,grown_some hG _⟩
 ·have h30:∀ w,(binOp .neq 43 (.agg (row old)) (.agg (row x))).run Tryz.prog w = .ok (.bool true) w:=fun w=>by rw [q30 w old x hl hx];simp [he]
  have hc:=hM.cell0
  have hgl:g < w.heap.size:=block_lt_of_cell hcell
  have hbl:b < w.heap.size:=block_lt_of_cell hc
  obtain ⟨n,hn⟩:∃ n,n=bs.length:=⟨_,rfl⟩
  rw [← hn] at hc hi
  have HB':Hid (Calls Tryz.prog 19 #[.pointer (some ⟨b,0,none⟩),.int .i64 (i:Int)] (w.alloc (.cells (row x) 43)) fun e w1=>e = .returned (.tuple #[.agg (row old),.int .i64 0])∧Hid (w1=(w.alloc (.cells (row x) 43)).alloc (.cells (row old) 43))∧w1.cell? ⟨b,0,none⟩=some (.slice (some ⟨g,off,none⟩) n cap)∧g < w1.heap.size∧b < w1.heap.size):=qh (HB.out.mono fun e w1 ⟨h1,h2⟩=>by
   have hsz:w1.heap.size=w.heap.size + 2:=by rw [h2];simp
   refine ⟨h1,qh h2,?_,by omega,by omega⟩
   rw [h2,World.cell?_alloc_lt _ _ _ (by simp;omega),World.cell?_alloc_lt _ _ _ hbl];exact hc)
  have HN:=qh hn
  clear hM hold hq hx hl hg he hcell hn hc hgl hbl HB
  go_enter Tryz.func70,Tryz.ntmps70
  go_wp2_with (first
   | (go_at_call 19;((with_reducible refine HB'.out.mono ?_);rintro e w1 ⟨rfl,HW,hc1,hgl1,hbl1⟩))
   | ((with_reducible refine store_new' old 7 13 ?_ ?_ HL.out ?_);(rfl);(rfl))
   | ((with_reducible refine load_any old 7 w1.heap.size ?_ ?_ HL.out ?_);(rfl);(exact heap_alloc_new _ _))
   | ((with_reducible refine load_any x 5 w.heap.size ?_ ?_ HX.out ?_);(rfl);(exact (Below.heap_alloc _ _ _ (by rw [HW.out];simp;omega)).trans (by rw [HW.out];exact (Below.heap_alloc _ _ _ (by simp)).trans (heap_alloc_new _ _)))))
  have hB1:w1.heap[w.heap.size]?=some (.cells (row x) 43 (0,0)):=by rw [HW.out];exact (Below.heap_alloc _ _ _ (by simp)).trans (heap_alloc_new _ _)
  have hlt:w.heap.size < w1.heap.size:=(Array.getElem?_eq_some_iff.1 hB1).1
  have hM1:Mem (w1.alloc (.cells (row old) 43)) b (.slice (some ⟨g,off,none⟩) bs.length cap) bs:=HM.out.kept (by rw [HW.out];exact grown_alloc (grown_alloc (grown_alloc (grown_refl _ _) _) _) _)
  obtain ⟨w3,hw3⟩:∃ w3,w3=w1.alloc (.cells (row old) 43):=⟨_,rfl⟩
  have hc3:=hM1.cell0
  rw [← hw3] at hc3 hM1 ⊢
  rw [← HN.out] at hc3
  have hB3:w3.heap[w.heap.size]?=some (.cells (row x) 43 (0,0)):=by rw [hw3];exact (Below.heap_alloc _ _ _ hlt).trans hB1
  have hgl3:g < w3.heap.size:=by rw [hw3];simp;omega
  have hbl3:b < w3.heap.size:=by rw [hw3];simp;omega
  have HM3:=qh hM1
  obtain ⟨g',off',cap',q',hv',hcell3,hq3,_⟩:=hM1.at HO.out
  cases hv'
  have hf3:w3.frozen? ⟨g,off + i,none⟩=false:=(hM1.put (grown_refl _ _) HI.out HX.out hB3).1
  clear hq3
  obtain ⟨x0,x1,x2,x3,x4,x5,x6,x7,x8,x9,x10,x11,x12,x13,x14,x15,hrow⟩:=row16 x HX.out
  have hcj:∀ j,w3.cell? ⟨w.heap.size,j,none⟩=(row x)[j]?:=fun j=>cell_of_row _ _ j _ _ _ hB3
  rw [hrow] at hcj
  have c0:w3.cell? ⟨w.heap.size,0,none⟩=some (.int .u32 x0):=hcj 0
  have c1:w3.cell? ⟨w.heap.size,1,none⟩=some (.int .u32 x1):=hcj 1
  have c2:w3.cell? ⟨w.heap.size,2,none⟩=some (.int .u32 x2):=hcj 2
  have c3:w3.cell? ⟨w.heap.size,3,none⟩=some (.int .u32 x3):=hcj 3
  have c4:w3.cell? ⟨w.heap.size,4,none⟩=some (.int .u32 x4):=hcj 4
  have c5:w3.cell? ⟨w.heap.size,5,none⟩=some (.int .u32 x5):=hcj 5
  have c6:w3.cell? ⟨w.heap.size,6,none⟩=some (.int .u32 x6):=hcj 6
  have c7:w3.cell? ⟨w.heap.size,7,none⟩=some (.int .u32 x7):=hcj 7
  have c8:w3.cell? ⟨w.heap.size,8,none⟩=some (.int .u32 x8):=hcj 8
  have c9:w3.cell? ⟨w.heap.size,9,none⟩=some (.int .u32 x9):=hcj 9
  have c10:w3.cell? ⟨w.heap.size,10,none⟩=some (.int .u32 x10):=hcj 10
  have c11:w3.cell? ⟨w.heap.size,11,none⟩=some (.int .u32 x11):=hcj 11
  have c12:w3.cell? ⟨w.heap.size,12,none⟩=some (.int .u32 x12):=hcj 12
  have c13:w3.cell? ⟨w.heap.size,13,none⟩=some (.int .u32 x13):=hcj 13
  have c14:w3.cell? ⟨w.heap.size,14,none⟩=some (.int .u32 x14):=hcj 14
  have c15:w3.cell? ⟨w.heap.size,15,none⟩=some (.int .u32 x15):=hcj 15
  have HR:=qh hrow
  have HW3:=qh hw3
  clear hw3 hM1 hB1 hlt hc1 hgl1 hbl1 hB3 hcj hrow
  go_region_with (go_at_call 93;((with_reducible refine (laid_any _ _).mono ?_);rintro e w4 ⟨rfl,rfl⟩))
  all_goals
   go_wp2_with fail
   go_ret
   rw [← HR.out]
   have hG:w.grownBy (w3.alloc (.cells (row x) 43)) none:=by rw [HW3.out,HW.out];exact grown_alloc (grown_alloc (grown_alloc (grown_alloc (grown_refl _ _) _) _) _) _
   obtain ⟨_,hP,hQ⟩:=HM.out.put hG (i:=i) HI.out HX.out (heap_alloc_new _ _)
   rw [← World.setCell_alloc_past _ _ _ _ hgl3]
   refine ⟨rfl,hP.kept ⟨rfl,rfl,rfl,Nat.le_refl _,fun _ _ _=>rfl⟩,⟨hQ.os,hQ.tape,hQ.output,hQ.size,hQ.block⟩⟩
end Go.Proofs.YtenhdijbcdkfbaaGreatDoor.pp
namespace Go.Proofs.YtenhdijbcdkfbaaGreatDoor.pp
set_option linter.unusedVariables false
set_option linter.unusedSimpArgs false
set_option maxRecDepth 1000000
set_option maxHeartbeats 16000000
open Go Go.ChangeShapes Go.WideShapes Go.ChangeAt Go.RowKit
theorem grown_row {w w1:World} {c:List Int} (h:w1=w.alloc (.cells (row c) 43)):w.grownBy w1 none:=by rw [h];exact grown_alloc (grown_refl _ _) _
def inn (n:Nat) (i k:Int):Bool:=decide (0 ≤ i∧i < n∧0 ≤ k∧k < 16)
def inb (n:Nat) (i:Int):Bool:=decide (0 ≤ i∧i < n)
def err (ok:Bool):Int:=if ok then 0 else 5
def setB (bs:List (List Int)) (i:Int) (x:List Int):List (List Int):=if inb bs.length i then bs.set i.toNat x else bs
def getB (bs:List (List Int)) (i:Int):List Int:=if inb bs.length i then bs.getD i.toNat [] else zero
theorem getB_length {w:World} {b:Nat} {v:Value} {bs:List (List Int)} (hM:Mem w b v bs) (i:Int):(getB bs i).length=16:=by
 unfold getB
 split
 ·rename_i h
  simp [inb] at h
  have hi:i.toNat < bs.length:=by omega
  rw [List.getD_eq_getElem?_getD,List.getElem?_eq_getElem hi]
  exact hM.len _ (List.getElem_mem hi)
 ·rfl
section
variable {w:World} {b:Nat} {v:Value} {bs:List (List Int)}
theorem block_any (hM:Mem w b v bs) (i:Int):Calls Tryz.prog 19 #[.pointer (some ⟨b,0,none⟩),.int .i64 i] w fun e w'=>e = .returned (.tuple #[.agg (row (getB bs i)),.int .i64 (err (inb bs.length i))])∧w.grownBy w' none:=by
 by_cases h:inb bs.length i=true
 ·have h0:=h
  simp [inb] at h0
  obtain ⟨n,rfl⟩:∃ n:Nat,i=(n:Int):=⟨i.toNat,by omega⟩
  have hn:n < bs.length:=by omega
  have hx:bs[n]?=some (getB bs n):=by
   rw [getB,h,if_pos rfl,Int.toNat_natCast,List.getD_eq_getElem?_getD,List.getElem?_eq_getElem hn];rfl
  rw [h]
  exact (block_in b v bs n _ w hM hx).mono fun e w' ⟨h1,h2⟩=>⟨h1,grown_row h2⟩
 ·have h0:¬ (0 ≤ i∧i < bs.length):=by simpa [inb] using h
  have hz:getB bs i=zero:=by rw [getB,if_neg h]
  rw [hz,Bool.not_eq_true] at *
  rw [h]
  exact (block_out b v bs i w hM (by omega)).mono fun e w' ⟨h1,h2⟩=>⟨h1,grown_row h2⟩
theorem set_block_any (hM:Mem w b v bs) (i:Int) (x:List Int) (hx:x.length=16):Calls Tryz.prog 70 #[.pointer (some ⟨b,0,none⟩),.int .i64 i,.agg (row x)] w fun e w'=>e = .returned (.int .i64 (err (inb bs.length i)))∧Mem w' b v (setB bs i x)∧w.grownBy w' v.ownBlock:=by
 by_cases h:inb bs.length i=true
 ·have h0:=h
  simp [inb] at h0
  obtain ⟨n,rfl⟩:∃ n:Nat,i=(n:Int):=⟨i.toNat,by omega⟩
  rw [setB,h,if_pos rfl,Int.toNat_natCast]
  exact set_block_in b v bs n x hx w hM (by omega)
 ·have h0:¬ (0 ≤ i∧i < bs.length):=by simpa [inb] using h
  rw [setB,if_neg h,Bool.not_eq_true] at *
  rw [h]
  exact (set_block_err b v bs i x hx w hM (by omega)).mono fun e w' ⟨h1,h2⟩=>⟨h1,hM.kept h2,grown_some h2 _⟩
end
end Go.Proofs.YtenhdijbcdkfbaaGreatDoor.pp
namespace Go.Proofs.YtenhdijbcdkfbaaGreatDoor.pp
set_option linter.unusedVariables false
set_option linter.unusedSimpArgs false
set_option maxRecDepth 1000000
set_option maxHeartbeats 16000000
open Go Go.ChangeShapes Go.WideShapes Go.ChangeAt Go.RowKit
theorem bits_small (n:Nat) (hn:n ≤ 256):bits .and .u64 (n:Int) 4294967295=(n:Int):=by
 have:∀ m:Fin 257,bits .and .u64 ((m.val:Nat):Int) 4294967295=(m.val:Int):=by decide +kernel
 exact this ⟨n,by omega⟩
theorem mul64_any (n:Nat) (hn:n ≤ 256) (w:World):Calls Tryz.prog 83 #[.int .u64 1,.int .u64 (n:Int)] w fun e w'=>e = .returned (.tuple #[.int .u64 0,.int .u64 (n:Int)])∧w=w':=by
 have hb:=bits_small n hn
 have hb1:bits .and .u64 1 4294967295=1:=bits_small 1 (by omega)
 have hb0:bits .and .u64 0 4294967295=0:=bits_small 0 (by omega)
 have hd:(n:Int) / 4294967296=0:=by omega
 have hw:IntKind.u64.wrap (n:Int)=n:=by simp [IntKind.wrap,IntKind.bits,IntKind.signed];omega
 have hw0:IntKind.u64.wrap 0=0:=by decide
 go_enter Tryz.func83,Tryz.ntmps83
 go_wp2
 go_ret2
 exact ⟨rfl,rfl⟩
theorem mul_any (n:Nat) (hn:n ≤ 256) (w:World):Calls Tryz.prog 57 #[.int .u64 1,.int .u64 (n:Int)] w fun e w'=>e = .returned (.tuple #[.int .u64 0,.int .u64 (n:Int)])∧w=w':=by
 have HM:=qh (mul64_any n hn w)
 go_enter Tryz.func57,Tryz.ntmps57
 go_wp2_with (go_at_call 83;((with_reducible refine HM.out.mono ?_);rintro e w' ⟨rfl,rfl⟩))
 go_ret2
 exact ⟨rfl,rfl⟩
theorem make_at {P:Program} {w:World} {ops:Array Oper} {rest:List Oper} {a:Act} {Q:Exit→Act→World→Prop} {dst:Option Tmp} {ty:TypeId} {pos:String} {after:Array Edge}
  (t e:TypeId) (i:TypeInfo) (z:Value) (l c:Tmp) (n:Nat) (ht:P.underlying t=some (.slice e)) (hi:P.info? e=some i) (hz:i.zero=some z) (h1:i.size=1) (hc:z.cells=#[z])
  (el:a.eval (.tmp l) = .int .i64 (n:Int)) (ec:a.eval (.tmp c) = .int .i64 (n:Int)) (hb:(i.bytes:Int) * (n:Int) ≤ 281474976710656) (h63:(n:Int) ≤ 9223372036854775807)
  (cs:List Value) (hcs:cs=List.replicate n z) (h:wpList P ops Q rest (a.put dst (.slice (some ⟨w.heap.size,0,none⟩) n n)) (w.alloc (.cells cs.toArray e))):wpList P ops Q (⟨dst,.makeSlice t (.tmp l) (.tmp c),ty,pos,after,none⟩ :: rest) a w:=by
 subst hcs
 refine wpList_plain rfl fun K hK'=>?_
 have hrun:=run_make (P:=P) w t e i z ht hi hz .i64 .i64 n n (by omega) (Int.le_refl _) hb h63
 have hm:madeCells z.cells ((n:Int).toNat * i.size)=(List.replicate n z).toArray:=by
  rw [h1,hc,Int.toNat_natCast,Nat.mul_one]
  apply Array.ext
  ·simp [madeCells]
  ·intro k h1 h2;simp [madeCells,Nat.mod_one]
 rw [hm,Int.toNat_natCast] at hrun
 unfold Oper.wp
 simp [execOp,el,ec,hrun,Result.andThen]
 exact hK' _ _ h
theorem step_copy {w:World} {ops:Array Oper} {o:Oper} {a:Act} {K:Act→World→Prop} {Q:Exit→Act→World→Prop} {E:Prop} (hgd:o.guard=none) (d s:Operand)
  (ho:o.op = .call { callee:= .builtin .copy,args:=#[d,s],argTypes:=#[71,71] }) (g off dl dc sl sc:Nat) (cur:Array Value) (cs:List Value)
  (hd:a.eval d = .slice (some ⟨g,off,none⟩) dl dc) (hs:a.eval s = .slice (some ⟨g,0,none⟩) sl sc) (hg:w.heap[g]?=some (.cells cur 73 (0,0))) (hn:cs.length=Nat.min sl dl)
  (hsrc:∀ (j:Nat) v,cs[j]?=some v→cur[j]?=some v) (hfit:off + cs.length ≤ cur.size) (h1:∀ v ∈ cs,v.oneCell'=true) (new:List Value) (hnew:new=cur.toList.take off ++ cs ++ cur.toList.drop (off + cs.length))
  (h:K (a.put o.dst (.int .i64 (cs.length:Int))) (w.setRow g new.toArray)) :
  if Region.wanted o (yielded ops a.tmps)=true then Oper.wp Tryz.prog o a w K Q else E:=by
 subst hnew
 have hw:Region.wanted o (yielded ops a.tmps)=true:=by simp [Region.wanted,hgd]
 rw [if_pos hw]
 have hrun:=run_copy_row (P:=Tryz.prog) w 71 71 o.type 73 g off dl dc ⟨g,0,none⟩ sl sc cur 73 cs Tryz.underlying71 (by kernel_rfl) hg hn (fun j v hv=>by
  rw [add_lit,Nat.zero_add,cell_of_row _ _ j _ _ _ hg];exact hsrc j v hv) hfit h1
 unfold Oper.wp execOp
 simp only [ho,resolve,invoke,builtin,Sem.run_bind,Sem.run_pure,Result.andThen_ok,List.map_toArray,List.map_cons,List.map_nil,hd,hs,hrun]
 exact h
theorem copy_at {w:World} {ops:Array Oper} {rest:List Oper} {a:Act} {Q:Exit→Act→World→Prop} {dst:Option Tmp} {ty:TypeId} {pos:String} {after:Array Edge} (d s:Tmp)
  (g off dl dc g2 sl sc:Nat) (cur:Array Value) (cs:List Value)
  (hd:a.eval (.tmp d) = .slice (some ⟨g,off,none⟩) dl dc) (hs:a.eval (.tmp s) = .slice (some ⟨g2,0,none⟩) sl sc) (hg:w.heap[g]?=some (.cells cur 73 (0,0))) (hn:cs.length=Nat.min sl dl)
  (hsrc:∀ (j:Nat) v,cs[j]?=some v→w.cell? ⟨g2,j,none⟩=some v) (hfit:off + cs.length ≤ cur.size) (h1:∀ v ∈ cs,v.oneCell'=true) (new:List Value) (hnew:new=cur.toList.take off ++ cs ++ cur.toList.drop (off + cs.length))
  (h:wpList Tryz.prog ops Q rest (a.put dst (.int .i64 (cs.length:Int))) (w.setRow g new.toArray)) :
  wpList Tryz.prog ops Q (⟨dst,.call { callee:= .builtin .copy,args:=#[.tmp d,.tmp s],argTypes:=#[71,71] },ty,pos,after,none⟩ :: rest) a w:=by
 subst hnew
 refine wpList_plain rfl fun K hK'=>?_
 have hrun:=run_copy_row (P:=Tryz.prog) w 71 71 ty 73 g off dl dc ⟨g2,0,none⟩ sl sc cur 73 cs Tryz.underlying71 (by kernel_rfl) hg hn (fun j v hv=>by
  rw [add_lit,Nat.zero_add];exact hsrc j v hv) hfit h1
 unfold Oper.wp execOp
 simp only [resolve,invoke,builtin,Sem.run_bind,Sem.run_pure,Result.andThen_ok,List.map_toArray,List.map_cons,List.map_nil,hd,hs,hrun]
 exact hK' _ _ h
def rep (q k n:Nat):List Value:=List.replicate k (Ptr q) ++ List.replicate (n - k) (.pointer none)
theorem rep_len (q k n:Nat) (h:k ≤ n):(rep q k n).length=n:=by simp [rep];omega
theorem rep_get (q k n j:Nat) (h:k ≤ n):(rep q k n)[j]?=if j < k then some (Ptr q) else if j < n then some (.pointer none) else none:=by
 unfold rep
 rw [List.getElem?_append]
 simp only [List.length_replicate,List.getElem?_replicate]
 by_cases h1:j < k
 ·simp [h1]
 ·by_cases h2:j < n
  ·simp [h1,h2,show j - k < n - k by omega]
  ·simp [h1,h2,show ¬ j - k < n - k by omega]
theorem rep_next (q k n c:Nat) (h:k ≤ n) (hc:k + c ≤ n):(rep q k n).take k ++ List.replicate c (Ptr q) ++ (rep q k n).drop (k + c)=rep q (k + c) n:=by
 apply List.ext_getElem?
 intro j
 rw [rep_get _ _ _ _ hc,List.append_assoc,List.getElem?_append,List.getElem?_append,List.getElem?_take,List.getElem?_drop,List.length_take,rep_len _ _ _ h,List.length_replicate,List.getElem?_replicate,rep_get _ _ _ _ h,rep_get _ _ _ _ h]
 rw [show min k n=k by omega]
 by_cases h1:j < k
 ·simp [h1,show j < k + c by omega]
 ·by_cases h2:j < k + c
  ·simp [h1,h2,show j - k < c by omega]
  ·simp [h1,h2,show ¬ j - k < c by omega,show k + c + (j - k - c)=j by omega]
theorem info55:(Tryz.prog.info? 73).map (fun i=>(i.zero,i.size,i.bytes))=some (some (.pointer none),1,8):=by kernel_rfl
theorem repeat_any (q:Nat) (n:Nat) (h1:1 ≤ n) (h2:n ≤ 256) (w:World) (g:Nat) (hg:w.heap[g]?=some (.cells #[Ptr q] 73 (0,0))) :
  Calls Tryz.prog 25 #[.slice (some ⟨g,0,none⟩) 1 1,.int .i64 (n:Int)] w fun e w'=>e = .returned (.slice (some ⟨w.heap.size,0,none⟩) n n)∧w'.heap[w.heap.size]?=some (.cells (rep q n n).toArray 73 (0,0))∧w.grownBy w' none:=by
 obtain ⟨i0,hi,hz0,hz1,hz2⟩:=info_parts info55
 have HM:=qh (mul_any n h2 w)
 have hcell:w.cell? ⟨g,0,none⟩=some (Ptr q):=by simp [World.cell?,hg]
 have HG:=qh hg
 have hgl:g < w.heap.size:=(Array.getElem?_eq_some_iff.1 hg).1
 have hr0:rep q 0 n=List.replicate n (.pointer none):=by simp [rep]
 have hz:(rep q 0 n).length=n:=rep_len q 0 n (Nat.zero_le _)
 have HR0:=qh hr0
 have HZ:=qh hz
 clear hg hr0 hz
 go_enter Tryz.func25,Tryz.ntmps25
 go_wp2_with (first
  | (go_at_call 57;((with_reducible refine HM.out.mono ?_);rintro e w' ⟨rfl,rfl⟩))
  | ((with_reducible refine make_at 71 73 i0 (.pointer none) 29 29 n Tryz.underlying71 hi hz0 hz1 ?_ ?_ ?_ ?_ ?_ (rep q 0 n) ?_ ?_);(rfl);(rfl);(rfl);(rw [hz2];omega);(omega);(exact HR0.out))
  | ((with_reducible refine copy_at 31 32 w.heap.size 0 n n g 1 1 (rep q 0 n).toArray [Ptr q] ?_ ?_ ?_ ?_ ?_ ?_ ?_ (rep q 1 n) ?_ ?_);(rfl);(rfl);(exact heap_alloc_new _ _);(show (1:Nat)=min 1 n;omega);(intro j v hv;cases j with | zero=>(simp at hv;subst hv;rw [World.cell?_alloc_lt _ _ _ hgl];exact hcell) | succ j=>simp at hv);(simp [HZ.out];omega);(intro v hv;simp at hv;subst hv;rfl);(exact (rep_next q 0 n 1 (Nat.zero_le _) (by omega)).symm);(rw [World.setRow_alloc_new])))
 go_loopw [8] (fun i wr=>∃ k:Nat,k ≤ n∧1 ≤ k∧i = .int .i64 (k:Int)∧wr.heap[w.heap.size]?=some (.cells (rep q k n).toArray 73 (0,0))∧w.grownBy wr none) (fun i _=>n - (intOf i).toNat)
 case atStart=>exact ⟨1,h1,Nat.le_refl _,rfl,heap_alloc_new _ _,World.grownBy_alloc _ _ none⟩
 case round=>
  obtain ⟨k,hk,hk1,rfl,hblk,hgr⟩:=hrel
  by_cases hlt:k < n
  ·have HB:=qh hblk
   have HGR:=qh hgr
   have hnk:¬ n=k:=by omega
   have hc:∃ c,c=min k (n - k)∧k + c ≤ n∧1 ≤ c:=⟨_,rfl,by omega,by omega⟩
   obtain ⟨c,hc1,hc2,hc3⟩:=hc
   have HC:=qh hc1
   have hwr:IntKind.i64.wrap ((k:Int) + (c:Int))=(k:Int) + (c:Int):=by simp [IntKind.wrap,IntKind.bits,IntKind.signed];omega
   clear hblk hgr hc1
   go_wp2_with fail
   go_region_law (refine step_copy rfl (.tmp 41) (.tmp 44) rfl w.heap.size k (n - k) (n - k) k n (rep q k n).toArray (List.replicate c (Ptr q)) (by simp [Act.eval,Act.put]) (by simp [Act.eval,Act.put]) HB.out (by rw [List.length_replicate];exact HC.out) (by intro j v hv;rw [List.getElem?_replicate] at hv;split at hv <;> cases hv;rw [List.getElem?_toArray,rep_get _ _ _ _ hk,if_pos (by have:=HC.out;omega)]) (by simp [rep_len _ _ _ hk];exact hc2) (by intro v hv;rw [List.eq_of_mem_replicate hv];rfl) (rep q (k + c) n) (by rw [List.length_replicate];exact (rep_next q k n c hk hc2).symm) ?_)
   simp [Act.put]
   go_wp2_with fail
   go_roundw
   case rel=>exact ⟨k + c,hc2,by omega,by simp,setRow_heap _ _ _ _ _ _ (show wr.drew.heap[w.heap.size]?=_ from HB.out),⟨HGR.out.os,HGR.out.tape,HGR.out.output,by have:=HGR.out.size;simp at this ⊢;omega,fun j hj hn=>(setRow_other _ _ _ _ (by omega)).trans (HGR.out.block j hj hn)⟩⟩
   case measure=>simp [intOf];omega
  ·have hkn:k=n:=by omega
   subst hkn
   have HB:=qh hblk
   have HGR:=qh hgr
   clear hblk hgr
   go_wp2_with fail
   go_ret
   exact ⟨rfl,HB.out,HGR.out⟩
end Go.Proofs.YtenhdijbcdkfbaaGreatDoor.pp
namespace Go.Proofs.YtenhdijbcdkfbaaGreatDoor.pp
set_option linter.unusedVariables false
set_option linter.unusedSimpArgs false
set_option maxRecDepth 1000000
set_option maxHeartbeats 16000000
open Go Go.ChangeShapes Go.WideShapes Go.ChangeAt Go.RowKit
theorem new_err (n:Int) (w:World) (h:n < 1 ∨ 256 < n):Calls Tryz.prog 5 #[.int .i64 n] w fun e w'=>e = .returned (.tuple #[.pointer none,.int .i64 2])∧w=w':=by
 by_cases h0:n < 1
 ·clear h
  go_enter Tryz.func5,Tryz.ntmps5
  go_wp2
  go_ret2
  exact ⟨rfl,rfl⟩
 ·have h1:decide (n < 1)=false:=by simp;omega
  have h3:decide (256 < n)=true:=by simp;omega
  clear h h0
  go_enter Tryz.func5,Tryz.ntmps5
  go_wp2
  go_ret2
  exact ⟨rfl,rfl⟩
theorem Mem.made {w:World} {b g q n:Nat} (hb:w.heap[b]?=some (.cells #[.slice (some ⟨g,0,none⟩) n n] 75 (0,0))) (hg:w.heap[g]?=some (.cells (rep q n n).toArray 73 (0,0))) (hq:w.heap[q]?=some (.cells (row zero) 43 (0,0))) (hn:n ≤ 256) :
  Mem w b (.slice (some ⟨g,0,none⟩) n n) (List.replicate n zero):=by
 refine ⟨hb,⟨List.replicate n q,.inr ⟨g,0,n,_,by simp,hg,by simp,by unfold maxLen;omega,by simp [rep],fun k x hk=>?_⟩,by simp,fun i p x hp hx=>?_⟩,fun x hx=>?_⟩
 ·rw [List.map_replicate] at hk
  rw [Nat.zero_add,List.getElem?_toArray,rep,Nat.sub_self,List.replicate_zero,List.append_nil]
  exact hk
 ·rw [List.getElem?_replicate] at hp hx
  by_cases hi:i < n
  ·rw [if_pos hi] at hp hx
   cases hp;cases hx
   exact hq
  ·rw [if_neg hi] at hp
   cases hp
 ·rw [List.eq_of_mem_replicate hx];rfl
theorem new_ok (n:Nat) (w:World) (h1:1 ≤ n) (h2:n ≤ 256):Calls Tryz.prog 5 #[.int .i64 (n:Int)] w fun e w'=>∃ b v,e = .returned (.tuple #[.pointer (some ⟨b,0,none⟩),.int .i64 0])∧Mem w' b v (List.replicate n zero)∧w.grownBy w' none∧w.heap.size ≤ b∧∀ k,v.ownBlock=some k→w.heap.size ≤ k:=by
 have hd1:decide ((n:Int) < 1)=false:=by simp;omega
 have hd2:decide (256 < (n:Int))=false:=by simp;omega
 have HR:=qh (repeat_any w.heap.size n h1 h2 ((w.alloc (.cells (row zero) 43)).alloc (.cells #[Ptr w.heap.size] 73)) (w.heap.size + 1) (by have:=heap_alloc_new (w.alloc (.cells (row zero) 43)) (.cells #[Ptr w.heap.size] 73);simpa using this))
 have H1:=qh h1
 have H2:=qh h2
 clear h1 h2
 go_enter Tryz.func5,Tryz.ntmps5
 go_wp2_with (go_at_call 25;((refine HR.out.mono ?_);rintro e w1 ⟨rfl,hb1,hg1⟩))
 go_ret2
 have hsz:((w.alloc (.cells (row zero) 43)).alloc (.cells #[Ptr w.heap.size] 73)).heap.size=w.heap.size + 1 + 1:=by simp
 rw [hsz] at hb1
 have hz0:((w.alloc (.cells (row zero) 43)).alloc (.cells #[Ptr w.heap.size] 73)).heap[w.heap.size]?=some (.cells (row zero) 43 (0,0)):=(Below.heap_alloc _ _ _ (by simp)).trans (heap_alloc_new _ _)
 have hz1:w1.heap[w.heap.size]?=some (.cells (row zero) 43 (0,0)):=(hg1.block _ (by rw [hsz];omega) (by simp)).trans hz0
 have hgw:w.grownBy w1 none:=grown_trans (grown_alloc (grown_alloc (grown_refl _ _) _) _) hg1
 refine ⟨_,_,rfl,Mem.made (q:=w.heap.size) (heap_alloc_new _ _) ?_ ?_ H2.out,grown_alloc hgw _,hgw.size,fun k hk=>?_⟩
 ·exact (Below.heap_alloc _ _ _ (Array.getElem?_eq_some_iff.1 hb1).1).trans hb1
 ·exact (Below.heap_alloc _ _ _ (Array.getElem?_eq_some_iff.1 hz1).1).trans hz1
 ·simp [Value.ownBlock] at hk;omega
theorem Sl.empty (w:World) (e:TypeId):Sl (w.alloc (.cells #[] e)) e (.slice (some ⟨w.heap.size,0,none⟩) 0 0) []:=
 .inr ⟨w.heap.size,0,0,#[],rfl,heap_alloc_new w _,Nat.le_refl _,by unfold maxLen;omega,by simp,fun k x hk=>by simp at hk⟩
theorem Ptr_one (ps:List Nat):∀ u ∈ ps.map Ptr,u.oneCell'=true:=fun u hu=>by
 obtain ⟨n,_,rfl⟩:=List.mem_map.1 hu
 rfl
theorem clone_any (v:Value) (xs:List Nat) (w:World) (hs:Sl w 73 v (xs.map Ptr)) (hl:xs.length ≤ 256) :
  Calls Tryz.prog 65 #[v] w fun e w'=>∃ v',e = .returned v'∧Sl w' 73 v' (xs.map Ptr)∧w.grownBy w' none∧∀ k,v'.ownBlock=some k→w.heap.size ≤ k:=by
 obtain ⟨i0,hi,hz0,hz1,hz2⟩:=info_parts info55
 have q53:∀ (w:World) (a:Option Addr) (n c n' c':Nat),(binOp .eql 71 (.slice a n c) (.slice none n' c')).run Tryz.prog w = .ok (.bool a.isNone) w:=fun w a n c n' c'=>Lib.run_eql_slice_nil w _ _ a n c n' c' Tryz.underlying71
 have HS:=qh hs
 have HL:Hid ((xs.map Ptr).length ≤ 256):=qh (by simpa using hl)
 rcases hs with ⟨rfl,h⟩ | ⟨g,off,cap,cur,hv,_⟩
 ·have HX:=qh h
  clear h hl
  go_enter Tryz.func65,Tryz.ntmps65
  go_wp2
  go_ret
  refine ⟨_,rfl,?_,⟨rfl,rfl,rfl,Nat.le_refl _,fun _ _ _=>rfl⟩,fun k hk=>by simp [Value.ownBlock] at hk⟩
  rw [HX.out];exact Sl.nil _ _
 ·obtain ⟨n0,hn0⟩:∃ n,n=(xs.map Ptr).length:=⟨_,rfl⟩
  rw [← hn0] at hv
  subst hv
  clear hl hn0
  go_enter Tryz.func65,Tryz.ntmps65
  go_wp2_with (at_builtin;refine wpList_append_sl rfl _ _ 71 71 rfl 73 i0 (.pointer none) 8 Tryz.underlying71 hi hz0 hz1 hz2 rfl (.slice (some ⟨w.heap.size,0,none⟩) 0 0) [] rfl (Sl.empty w 73) (xs.map Ptr).length (xs.map Ptr) ((HS.out.of_block (fun g hg=>Below.heap_alloc w (.cells #[] 73) _ (HS.out.lt g hg))).src Tryz.underlying71 (Ptr_one xs)) (by have:=HL.out;unfold maxLen;simp at this ⊢;omega) (by have:=HL.out;simp at this ⊢;omega) ?_;intro v' w2 hsl hgr hnx)
  go_ret
  refine ⟨v',rfl,by simpa using hsl,⟨hgr.os,hgr.tape,hgr.output,?_,fun k hk _=>?_⟩,fun k hk=>?_⟩
  ·have:=hgr.size;simp at this;omega
  ·exact (hgr.block k (by simp;omega) (by simp [Value.ownBlock];omega)).trans (Below.heap_alloc _ _ _ hk)
  ·rcases hnx with h | h
   ·rw [h] at hk;simp [Value.ownBlock] at hk;omega
   ·have:=h k hk;simp at this;omega
theorem copy_nil (w:World):Calls Tryz.prog 40 #[.pointer none] w fun e w'=>e = .returned (.pointer none)∧w=w':=by
 go_enter Tryz.func40,Tryz.ntmps40
 go_wp2
 go_ret
 exact ⟨rfl,rfl⟩
theorem copy_any (b:Nat) (v:Value) (bs:List (List Int)) (w:World) (hM:Mem w b v bs) (hl:bs.length ≤ 256) :
  Calls Tryz.prog 40 #[.pointer (some ⟨b,0,none⟩)] w fun e w'=>∃ b' v',e = .returned (.pointer (some ⟨b',0,none⟩))∧Mem w' b' v' bs∧w.grownBy w' none∧w.heap.size ≤ b'∧∀ k,v'.ownBlock=some k→w.heap.size ≤ k:=by
 have hc:=hM.cell0
 have HM:=qh hM
 obtain ⟨ps,hs,hp1,hp2⟩:=hM.sl
 obtain ⟨ad0,n0,cap0,rfl⟩:=hs.form2
 have HC:=qh (clone_any _ ps w hs (by omega))
 have HP1:=qh hp1
 have HP2:=qh hp2
 clear hM hl hs hp1 hp2
 go_enter Tryz.func40,Tryz.ntmps40
 go_wp2_with (go_at_call 65;((with_reducible refine HC.out.mono ?_);rintro e w2 ⟨v',rfl,hsl2,hgr2,hfr2⟩;obtain ⟨ad',n',cap',rfl⟩:=hsl2.form2))
 go_ret
 have hlt:∀ (i q:Nat) (x:List Int),ps[i]?=some q→bs[i]?=some x→w2.heap[q]?=some (.cells (row x) 43 (0,0)):=fun i q x h1 h2=>(hgr2.block q (Array.getElem?_eq_some_iff.1 (HP2.out i q x h1 h2)).1 (by simp)).trans (HP2.out i q x h1 h2)
 refine ⟨_,_,rfl,⟨heap_alloc_new _ _,⟨ps,hsl2.of_block (fun g hg=>Below.heap_alloc _ _ _ (hsl2.lt g hg)),HP1.out,fun i q x h1 h2=>(Below.heap_alloc _ _ _ (Array.getElem?_eq_some_iff.1 (hlt i q x h1 h2)).1).trans (hlt i q x h1 h2)⟩,HM.out.len⟩,grown_alloc hgr2 _,hgr2.size,hfr2⟩
end Go.Proofs.YtenhdijbcdkfbaaGreatDoor.pp
