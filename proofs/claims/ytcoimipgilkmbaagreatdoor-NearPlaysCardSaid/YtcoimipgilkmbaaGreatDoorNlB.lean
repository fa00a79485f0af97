/-
 In the midst of a near's call: what lies where, what the parts answer. Conditions: as NlA names them.
-/
import Derived.Test.YtcoimipgilkmbaaGreatDoorTl
import Derived.Test.YtcoimipgilkmbaaGreatDoorNlA
namespace Go.Proofs.YtcoimipgilkmbaaGreatDoor.nl
set_option linter.unusedVariables false
set_option linter.unusedSimpArgs false
set_option maxRecDepth 1000000
set_option maxHeartbeats 16000000
open Go Go.ChangeShapes Go.WideShapes Go.ChangeAt Go.RowKit Go.Shelf
open Go.Proofs.YtcoimipgilkmbaaGreatDoor.nr
open Go.Proofs.YtcoimipgilkmbaaGreatDoor.tt (Cfg Nt na nt zn bare zd fits row tyne lt_of U Tab TabK grown_refl grown_trans grown_alloc grown_setCells grown_drew grown_drewN yes)
open Go.Proofs.YtcoimipgilkmbaaGreatDoor.kk (Ln St zl la ln cfind cdrop cuse cgoes cwrite cturn cput setAt setOf live fF Shp Cac Kept)
open Go.Proofs.YtcoimipgilkmbaaGreatDoor.bk (Bk rem kills puts putE fd fl Nd Rg dead fresh BkAt)
open Go.Proofs.YtcoimipgilkmbaaGreatDoor.mrk (Ms rdS wrS meets addE Dom MkAt)
open Go.Proofs.YtcoimipgilkmbaaGreatDoor.de (Dl sT gE rF aD LAt)
open Go.Proofs.YtcoimipgilkmbaaGreatDoor.oo (ref)
theorem filled {w:World} {g:Nat} {cs:Array Value} {t:TypeId} (h:w.heap[g]?=some (.cells cs t (0,0))) {vs:List Value} (hl:vs.length=cs.size):(w.setCells g 0 vs).heap[g]?=some (.cells vs.toArray t (0,0)):=by
 obtain ⟨cur,h1,h2,_,h4⟩:=tt.heap_setCells g t vs 0 w cs h (by omega)
 rw [h1]
 have:cur=vs.toArray:=by
  apply Array.ext
  ·rw [h2,← hl];simp
  ·intro i hi hi2
   have hv:vs[i]?=some vs[i]:=List.getElem?_eq_getElem (by simpa using hi2)
   have:=h4 i _ hv
   rw [Nat.zero_add,Array.getElem?_eq_getElem hi] at this
   rw [Option.some.inj this];simp
 rw [this]
theorem there_at {w:World} {g:Nat} {cs:Array Value} {t:TypeId} (h:w.heap[g]?=some (.cells cs t (0,0))) {n:Nat} (hn:n ≤ cs.size):w.there g 0 n:=fun i hi=>by
 refine ⟨?_,frozen_of_row _ _ _ _ _ h⟩
 rw [cell_of_row _ _ _ _ _ _ h,Nat.zero_add,Array.getElem?_eq_getElem (by omega)];rfl
theorem there_from {w:World} {g o:Nat} {cs:Array Value} {t:TypeId} (h:w.heap[g]?=some (.cells cs t (0,0))) {n:Nat} (hn:o + n ≤ cs.size):w.there g o n:=fun i hi=>by
 refine ⟨?_,frozen_of_row _ _ _ _ _ h⟩
 rw [cell_of_row _ _ _ _ _ _ h,Array.getElem?_eq_getElem (by omega)];rfl
theorem grown_row {w w1:World} (h:w.grownBy w1 none) (g:Nat) (c:Array Value):w.grownBy (w1.setRow g c) (some g):=
 ⟨h.os,h.tape,h.output,by have:=h.size;simp;omega,fun i hi hn=>(setRow_other _ _ _ _ (fun e=>hn (by rw [e]))).trans (h.block i hi (by simp))⟩
abbrev on (n:Nt):Obj:= .cells (na n) 37
abbrev ol (l:Ln):Obj:= .cells (la l) 50
abbrev od (d:List Int):Obj:= .cells (row d) 35
structure Mil (w W:World) (L:LL) (v:Value) (P:Pm) (k:Nr) (B:List (Nat × Obj)):Prop where
 ln:LN W { L with bv:=v } P k
 mv:Mv w W L v
 hs:∀ p ∈ B,W.heap[p.1]?=some p.2
 lo:∀ p ∈ B,w.heap.size ≤ p.1
 vn:∀ p ∈ B,v.ownBlock ≠ some p.1
 nd:(B.map (·.1)).Nodup
 lt:∀ g,L.any g→g < w.heap.size
 tw:0 < w.heap.size∧1 < w.heap.size
section
variable {w W W':World} {L:LL} {v v':Value} {P:Pm} {k k':Nr} {B:List (Nat × Obj)}
theorem Mil.of (h:LN w L P k):Mil w w L L.bv P k []:=⟨h,Mv.refl w L,by simp,by simp,by simp,by simp,fun g hg=>h.lt hg,h.tb.lb,h.tb.lk⟩
theorem Mil.blt (m:Mil w W L v P k B) {p:Nat × Obj} (hp:p ∈ B):p.1 < W.heap.size:=(Array.getElem?_eq_some_iff.1 (m.hs p hp)).1
theorem Mil.noany (m:Mil w W L v P k B) {p:Nat × Obj} (hp:p ∈ B):¬ { L with bv:=v }.any p.1:=fun ha=>by
 rcases any_bv ha with ha | ha
 ·have:=m.lt _ ha;have:=m.lo p hp;omega
 ·exact m.vn p hp ha
theorem Mil.next (m:Mil w W L v P k B) (h:LN W' { L with bv:=v' } P k') (hm:Mv W W' { L with bv:=v } v'):Mil w W' L v' P k' B:=
 ⟨h,m.mv.trans hm,fun p hp=>(hm.kp.block _ (m.blt hp) (m.noany hp)).trans (m.hs p hp),m.lo,fun p hp e=>by
  rcases hm.nx with hx | hx
  ·exact m.vn p hp (hx.symm.trans e)
  ·have:=hx _ e;have:=m.blt hp;omega,m.nd,m.lt,m.tw⟩
theorem Mil.grown (m:Mil w W L v P k B) (hg:W.grownBy W' none):Mil w W' L v P k B:=m.next (m.ln.grown hg) (Mv.of (L:={ L with bv:=v }) hg)
theorem Mil.drew (m:Mil w W L v P k B):Mil w W.drew L v P k B:=m.grown (grown_drew (grown_refl _ _))
theorem Mil.alloc (m:Mil w W L v P k B) (cs:Array Value) (t:TypeId):Mil w (W.alloc (.cells cs t)) L v P k ((W.heap.size,.cells cs t) :: B):=by
 have hg:W.grownBy (W.alloc (.cells cs t)) none:=grown_alloc (grown_refl _ _) _
 have m2:=m.grown hg
 refine ⟨m2.ln,m2.mv,?_,?_,?_,?_,m.lt,m.tw⟩
 ·intro p hp
  rcases List.mem_cons.1 hp with rfl | hp
  ·exact heap_alloc_new _ _
  ·exact m2.hs p hp
 ·intro p hp
  rcases List.mem_cons.1 hp with rfl | hp
  ·exact m.mv.kp.size
  ·exact m.lo p hp
 ·intro p hp
  rcases List.mem_cons.1 hp with rfl | hp
  ·intro e
   have:=m.ln.lt (g:=W.heap.size) (.inr (.inr (.inl (.inr (.inr e)))))
   omega
  ·exact m.vn p hp
 ·rw [List.map_cons,List.nodup_cons]
  refine ⟨fun hm=>?_,m.nd⟩
  obtain ⟨p,hp,he⟩:=List.mem_map.1 hm
  have:=m.blt hp
  omega
theorem Mil.put (m:Mil w W L v P k B) {i g:Nat} {x y:Obj} (hi:B[i]?=some (g,x)) (hg:W.grownBy W' (some g)) (hy:W'.heap[g]?=some y):Mil w W' L v P k (B.set i (g,y)):=by
 have hm:=List.mem_of_getElem? hi
 have hn:=m.noany hm
 have hmap:(B.set i (g,y)).map (·.1)=B.map (·.1):=by
  apply List.ext_getElem?
  intro j
  rw [List.map_set,List.getElem?_set]
  split
  ·rename_i e
   subst e
   split
   ·rw [List.getElem?_map,hi];rfl
   ·rename_i hlt
    rw [List.getElem?_eq_none (by omega)]
  ·rfl
 have hkey:∀ p ∈ B.set i (g,y),∃ q ∈ B,q.1=p.1:=fun p hp=>by
  have:p.1 ∈ (B.set i (g,y)).map (·.1):=List.mem_map.2 ⟨p,hp,rfl⟩
  rw [hmap] at this
  exact List.mem_map.1 this
 have ha:∀ j,{ L with bv:=v }.any j→W'.heap[j]?=W.heap[j]?:=fun j hj=>hg.block j (m.ln.lt hj) (fun e=>hn (Option.some.inj e ▸ hj))
 have hlo:=m.lo _ hm
 have hwlt:=m.ln.tb
 have h0:∀ q:Nat,q < w.heap.size→W'.heap[q]?=W.heap[q]?:=fun q hq=>hg.block q (Nat.lt_of_lt_of_le hq m.mv.kp.size) (fun e=>by have:=Option.some.inj e;simp at hlo;omega)
 refine ⟨m.ln.same ha ?_,⟨⟨hg.os.trans m.mv.kp.os,hg.tape.trans m.mv.kp.tape,hg.output.trans m.mv.kp.output,Nat.le_trans m.mv.kp.size hg.size,fun j hj hnj=>(h0 j hj).trans (m.mv.kp.block j hj hnj)⟩,m.mv.nx⟩,?_,?_,?_,by rw [hmap];exact m.nd,m.lt,m.tw⟩
 ·have ht:=m.tw
  exact hwlt.same (hg.block _ hwlt.lb (fun e=>by have:=Option.some.inj e;simp at hlo;omega)) (hg.block _ hwlt.lk (fun e=>by have:=Option.some.inj e;simp at hlo;omega))
 ·intro p hp
  obtain ⟨j,hj⟩:=List.getElem?_of_mem hp
  rw [List.getElem?_set] at hj
  split at hj
  ·rename_i e
   subst e
   rw [if_pos (List.getElem?_eq_some_iff.1 hi).1] at hj
   cases hj
   exact hy
  ·rename_i hne
   refine (hg.block _ (m.blt (List.mem_of_getElem? hj)) (fun e=>hne ?_)).trans (m.hs p (List.mem_of_getElem? hj))
   refine (List.getElem?_inj (by rw [List.length_map];exact (List.getElem?_eq_some_iff.1 hi).1) m.nd).1 ?_
   rw [List.getElem?_map,List.getElem?_map,hi,hj]
   exact congrArg some (Option.some.inj e).symm
 ·intro p hp
  obtain ⟨q,hq,he⟩:=hkey p hp
  rw [← he];exact m.lo q hq
 ·intro p hp
  obtain ⟨q,hq,he⟩:=hkey p hp
  rw [← he];exact m.vn q hq
end
end Go.Proofs.YtcoimipgilkmbaaGreatDoor.nl
