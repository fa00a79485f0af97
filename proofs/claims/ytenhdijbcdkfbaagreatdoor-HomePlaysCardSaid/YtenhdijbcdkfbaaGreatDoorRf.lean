/-
 A range over an iterator that itself ranges over another iterator: the contract of such an iterator, and the law of a loop over it. No condition but what each theorem names.
-/
import Derived.Test.YtenhdijbcdkfbaaGreatDoorTl
import Derived.RangeFuncNested
import Derived.RangeFuncBound
import Derived.RangeFuncCalls
import Derived.RangeFuncLeaves
import Derived.RangeFuncBox
namespace Go.Proofs.YtenhdijbcdkfbaaGreatDoor.tt
set_option linter.unusedVariables false
set_option linter.unusedSimpArgs false
set_option maxRecDepth 1000000
set_option maxHeartbeats 16000000
open Go Go.RowKit
structure Holds (B K:Nat) (W W':World):Prop where
 keeps:KeepsFrom B W W'
 same:∀ k,B ≤ k→k < B + K→W'.heap[k]?=W.heap[k]?
def SeqR {α:Type} (F:Fence) (n:Nat) (P:Program) (g:Nat) (lb:Array Value) (encs:α→Array Value) (Kp:World→World→Prop) (S Sp:List α→Prop) (N K:Nat) (w:World):Prop:=
 ∀ (l:Nat) (J Jx:List α→World→Prop) (W:World),Below w.heap.size w W→OwnFrom W.heap.size J→OwnFrom W.heap.size Jx →
  (∀ pre x W1,J pre W1→W.heap.size + K ≤ W1.heap.size→pre.length < N→YieldAt F (n - 1) P l (encs x) W1 fun e W'=>
   Holds W.heap.size K W1 W'∧((e = .returned (.bool true)∧J (pre ++ [x]) W'∧Kp W1 W') ∨ (e = .returned (.bool false)∧Jx (pre ++ [x]) W'))) →
  J [] W →
  CallsIn F n P g (#[.func (.yield l) #[] #[]] ++ lb) W fun e W'=>(∃ v,e = .returned v)∧((∃ xs,S xs∧J xs W') ∨ (∃ pre,Sp pre∧Jx pre W'))
theorem keeps_up {B B':Nat} {X Y:World} (h:KeepsFrom B X Y) (hB:B ≤ B'):KeepsFrom B' X Y:=⟨h.size,fun k o hk=>h.same k o (Nat.le_trans hB hk)⟩
theorem keeps_put {B l:Nat} (W:World) (o:Obj) (h:l < B):KeepsFrom B W (W.putObj l o):=
 ⟨by simp [World.putObj],fun k o' hk ho _=>(World.putObj_heap_other (by omega)).trans ho⟩
theorem Holds.refl (B K:Nat) (W:World):Holds B K W W:=⟨KeepsFrom.refl _ _,fun _ _ _=>rfl⟩
theorem Holds.trans {B K:Nat} {X Y Z:World} (h:Holds B K X Y) (k:Holds B K Y Z):Holds B K X Z:=⟨h.keeps.trans k.keeps,fun i h1 h2=>(k.same i h1 h2).trans (h.same i h1 h2)⟩
theorem Holds.put {B K l:Nat} (W:World) (o:Obj) (h:l < B):Holds B K W (W.putObj l o):=⟨keeps_put W o h,fun k h1 _=>World.putObj_heap_other (by omega)⟩
theorem Holds.of_grown {B K:Nat} {W W':World} {row:Option Nat} (hg:W.grownBy W' row) (hrow:∀ r,row=some r→r < B) (hs:B + K ≤ W.heap.size):Holds B K W W':=
 ⟨KeepsFrom.of_grownBy hg hrow,fun k h1 h2=>hg.block k (by omega) (fun e=>by have:=hrow k e.symm;omega)⟩
def postR {α:Type} (B K:Nat) (Kp:World→World→Prop) (I:List α→World→Prop) (Ix:Code→List α→World→Prop) (xs:List α) (W:World):Exit→Act→World→Prop
 | .normal,_,W'=>(KeepsFrom B W W'∧Holds (B + 2) K W W')∧Kp W W'∧I xs W'
 | .ret,_,W'=>(KeepsFrom B W W'∧Holds (B + 2) K W W')∧Ix .ret xs W'
 | .exit id,_,W'=>(KeepsFrom B W W'∧Holds (B + 2) K W W')∧Ix (.exit id) xs W'
 | .goto t,_,W'=>(KeepsFrom B W W'∧Holds (B + 2) K W W')∧Ix (.goto t) xs W'
 | .panic _,_,_=>False
 | .outgrown,_,_=>False
theorem rangeR {F:Fence} {n:Nat} {P:Program} {α:Type} {g:Operand} {ps:Array Tmp} {assign body:Code} {Q:Exit→Act→World→Prop} {a:Act} {w:World}
  (hro:F.round=none) (h1:1 ≤ n) {gf:Nat} {lb:Array Value} (hg:a.eval g = .func (.func gf) #[] lb) (hFg:F.fn gf) (eg:∀ args w,(callFunc gf args).run P w = .ok (.enter gf args) w)
  {encs:α→Array Value} {Kp:World→World→Prop} {S Sp:List α→Prop} {N K:Nat} {w0:World} (hseq:SeqR F (n - 1) P gf lb encs Kp S Sp N K w0)
  (hKt:∀ {A B C:World},Kp A B→Kp B C→Kp A C) (hKb:∀ (W:World) (l:Nat) (o o':Obj),w.heap.size ≤ l→W.heap[l]?=some o→o.isCells=false→o.isWalk=false→Kp W (W.putObj l o')) (hb0:Below w0.heap.size w0 w) (hps:∀ x,(encs x).size=ps.size)
  (I:List α→World→Prop) (Ix:Code→List α→World→Prop) (hI:OwnFrom w.heap.size I) (hIx:∀ c,OwnFrom w.heap.size (Ix c)) (h0:I [] w) (Ax:α→Act→World→Prop) (hAx:∀ x a',OwnFrom w.heap.size (fun (_:Unit) W=>Ax x a' W))
  (hassign:∀ (l:Nat) (pre:List α) (x:α) (W:World) (C:Act→World→Prop),I pre W→w.heap.size + 2 + K ≤ W.heap.size→(∀ a' W',KeepsFrom w.heap.size W W'∧Holds (w.heap.size + 2) K W W'→Kp W W'→I pre W'→Ax x a' W'→C a' W') →
   assign.wpIn (F.inRound l) (n - 1 - 1) P (Exit.then C (fun _ _ _=>False)) { tmps:=(ps.zip (encs x)).foldl (fun t (p,v)=>t.setIfInBounds p v) a.tmps,defers:=[] } W)
  (hbody:∀ (l:Nat) (pre:List α) (x:α) (a':Act) (W:World),w.heap.size ≤ l→I pre W→Ax x a' W→w.heap.size + 2 + K ≤ W.heap.size→pre.length < N→body.wpIn (F.inRound l) (n - 1 - 1) P (postR w.heap.size K Kp I Ix (pre ++ [x]) W) a' W)
  (hdone:∀ (D:Nat) (xs:List α) (W:World),w.heap.size ≤ D→S xs→I xs W→W.heap[D]?=some (.deferred (some []))→Q .normal { a with defers:={ target:= .collected D,args:=#[] } :: a.defers } W)
  (hstop:∀ (D:Nat) (c:Code) (pre:List α) (W:World),w.heap.size ≤ D→Sp pre→Ix c pre W→W.heap[D]?=some (.deferred (some []))→c.wpIn F n P Q { a with defers:={ target:= .collected D,args:=#[] } :: a.defers } W) :
  (Code.rangeFunc g ps assign body).wpIn F n P Q a w:=by
 refine wpIn_rangeFunc fun fn hfn=>?_
 rw [hro]
 obtain ⟨rec,hrec⟩:∃ rec:LoopState→Option Code→Loop,rec=fun st pe=>{ state:=st,pending:=pe,fn,tmps:=a.tmps,params:=ps,assign,body,defers:=w.heap.size }:=⟨_,rfl⟩
 obtain ⟨W1,hW1⟩:∃ W1,W1=(w.alloc (.deferred (some []))).alloc (.loop (rec .ready none)):=⟨_,rfl⟩
 have hz1:W1.heap.size=w.heap.size + 2:=by rw [hW1];simp
 have hL1:W1.heap[w.heap.size + 1]?=some (.loop (rec .ready none)):=by
  have:=World.alloc_heap_new (w.alloc (.deferred (some []))) (.loop (rec .ready none))
  rwa [World.size_alloc,← hW1] at this
 have hK1:W1.heap[w.heap.size]?=some (.deferred (some [])):=by
  rw [hW1];exact (Below.heap_alloc _ _ _ (by simp)).trans (World.alloc_heap_new w _)
 have hb1:Below w0.heap.size w0 W1:=by
  rw [hW1];exact hb0.trans ((((Below.refl _ w).alloc (Nat.le_refl _) _).alloc (by simp) _).mono hb0.size)
 have hI1:I [] W1:=by rw [hW1];exact hI.alloc _ (hI.alloc _ h0)
 refine ⟨w.heap.size + 1,[{ target:= .collected w.heap.size,args:=#[] }],W1,{ target:= .fn (.func gf) lb,args:=#[.func (.yield (w.heap.size + 1)) #[] #[]] },W1,gf,
  #[.func (.yield (w.heap.size + 1)) #[] #[]] ++ lb,W1,by rw [hW1,hrec];exact run_enterLoop_outer _ _ _ _ _,by simp only [resolve,hg];simp [go_sem],fun f' hf'=>by simp [Target.leads] at hf';subst hf';exact hFg,by simp [invoke,go_sem,eg],fun _=>h1,?_⟩
 clear hW1
 have keep:∀ {A B:World} {row:Option Nat} {k:Nat} {o:Obj},A.grownBy B row→(∀ r,row=some r→W1.heap.size ≤ r∧∃ o:Obj,A.heap[r]?=some o∧o.isCells=false)→k < W1.heap.size→A.heap[k]?=some o→B.heap[k]?=some o:=fun hg' hr hk ho=>
  (hg'.block _ (Array.getElem?_eq_some_iff.1 ho).1 (fun e=>by have:=(hr _ e.symm).1;omega)).trans ho
 have up:∀ {A:World} {row:Option Nat},(∀ r,row=some r→W1.heap.size ≤ r∧∃ o:Obj,A.heap[r]?=some o∧o.isCells=false)→(∀ r,row=some r→w.heap.size ≤ r∧∃ o:Obj,A.heap[r]?=some o∧o.isCells=false):=fun hr r e=>⟨by have:=(hr r e).1;omega,(hr r e).2⟩
 refine (hseq (w.heap.size + 1)
  (fun pre W=>I pre W∧W.heap[w.heap.size + 1]?=some (.loop (rec .ready none))∧W.heap[w.heap.size]?=some (.deferred (some [])))
  (fun pre W=>∃ c,Ix c pre W∧W.heap[w.heap.size + 1]?=some (.loop (rec .done (some c)))∧W.heap[w.heap.size]?=some (.deferred (some [])))
  W1 hb1
  (fun s A B row hs hg' hr=>⟨hI s A B row hs.1 hg' (up hr),keep hg' hr (by omega) hs.2.1,keep hg' hr (by omega) hs.2.2⟩)
  (fun s A B row hs hg' hr=>by
   obtain ⟨c,hc,hl,hk⟩:=hs
   exact ⟨c,hIx c s A B row hc hg' (up hr),keep hg' hr (by omega) hl,keep hg' hr (by omega) hk⟩)
  ?_ ⟨hI1,hL1,hK1⟩).mono ?_
 ·rintro pre x W ⟨hi,hl,hk⟩ hsize hlen
  have hy:=run_yield (P:=P) (args:=encs x) hl (by rw [hrec];exact hps x)
  rw [hrec] at hy
  refine ⟨fn,_,assign,body,hy,roundIn_of_wpIn hfn (hassign _ pre x W _ hi (by omega) fun a' V ⟨hkf,hkh⟩ hkp hia hax=>?_)⟩
  clear hy
  have hlV:=hkf.same _ _ (by omega) hl rfl
  have hkV:=hkf.same _ _ (Nat.le_refl _) hk rfl
  refine ⟨_,run_beginRound hlV (by rw [hrec]),?_⟩
  obtain ⟨V2,hV2⟩:∃ V2,V2=V.putObj (w.heap.size + 1) (.loop { rec .ready none with state:= .busy }):=⟨_,rfl⟩
  rw [← hV2]
  have hlt:w.heap.size + 1 < V.heap.size:=(Array.getElem?_eq_some_iff.1 hlV).1
  have hl2:V2.heap[w.heap.size + 1]?=some (.loop { rec .ready none with state:= .busy }):=by rw [hV2];exact World.putObj_heap_same hlt
  have hk2:V2.heap[w.heap.size]?=some (.deferred (some [])):=by rw [hV2];exact (World.putObj_heap_other (by omega)).trans hkV
  have hp2:Kp V V2:=by rw [hV2];exact hKb _ _ _ _ (by omega) hlV rfl rfl
  have hf2:Holds W1.heap.size K V V2:=by rw [hV2];exact Holds.put V _ (by omega)
  have hz2:W.heap.size ≤ V2.heap.size:=by rw [hV2];have:=hkf.size;simpa [World.putObj] using this
  rw [← hz1] at hkh
  have hi2:I pre V2:=by rw [hV2];exact hI.putObj _ hia (by omega) hlV rfl
  have ha2:Ax x a' V2:=by rw [hV2];exact (hAx x a').putObj (s:=()) _ hax (by omega) hlV rfl
  clear hV2
  refine wpIn_mono (hbody _ pre x a' V2 (by omega) hi2 ha2 (by omega) hlen) ?_
  have fin:∀ (jump:Option Code) (X:World),KeepsFrom w.heap.size V2 X∧Holds (w.heap.size + 2) K V2 X →
    (Instr.endRound (w.heap.size + 1) jump).run P X = .ok (.bool jump.isNone) (X.putObj (w.heap.size + 1) (.loop (rec (if jump.isNone then .ready else .done) jump))) ∧
    (∃ o,X.heap[w.heap.size + 1]?=some o∧o.isCells=false∧o.isWalk=false) ∧
    (X.putObj (w.heap.size + 1) (.loop (rec (if jump.isNone then .ready else .done) jump))).heap[w.heap.size + 1]?=some (.loop (rec (if jump.isNone then .ready else .done) jump)) ∧
    (X.putObj (w.heap.size + 1) (.loop (rec (if jump.isNone then .ready else .done) jump))).heap[w.heap.size]?=some (.deferred (some [])) ∧
    Holds W1.heap.size K W (X.putObj (w.heap.size + 1) (.loop (rec (if jump.isNone then .ready else .done) jump))):=fun jump X ⟨hX,hXh⟩=>by
   rw [← hz1] at hXh
   have hlX:=hX.same _ _ (by omega) hl2 rfl
   have hrun:=run_endRound (P:=P) jump hlX
   rw [hrec] at hrun ⊢
   rw [hrec] at hlX
   exact ⟨hrun,⟨_,hlX,rfl,rfl⟩,World.putObj_heap_same (Array.getElem?_eq_some_iff.1 hlX).1,(World.putObj_heap_other (by omega)).trans (hX.same _ _ (Nat.le_refl _) hk2 rfl),
    ((hkh.trans hf2).trans hXh).trans (Holds.put X _ (by omega))⟩
  rintro e a3 X hp
  cases e with
  | normal=>
   obtain ⟨hX,hXp,hXi⟩:=hp
   obtain ⟨hr,⟨o,ho,hc,hwk⟩,hl4,hk4,hf4⟩:=fin none X hX
   exact ⟨_,_,hr,hf4,.inl ⟨rfl,⟨hI.putObj _ hXi (by omega) ho hc,hl4,hk4⟩,hKt hkp (hKt hp2 (hKt hXp (hKb _ _ _ _ (by omega) ho hc hwk)))⟩⟩
  | ret=>
   obtain ⟨hX,hXi⟩:=hp
   obtain ⟨hr,⟨o,ho,hc,hwk⟩,hl4,hk4,hf4⟩:=fin (some .ret) X hX
   exact ⟨_,_,hr,hf4,.inr ⟨rfl,.ret,(hIx _).putObj _ hXi (by omega) ho hc,hl4,hk4⟩⟩
  | exit id=>
   obtain ⟨hX,hXi⟩:=hp
   obtain ⟨hr,⟨o,ho,hc,hwk⟩,hl4,hk4,hf4⟩:=fin (some (.exit id)) X hX
   exact ⟨_,_,hr,hf4,.inr ⟨rfl,.exit id,(hIx _).putObj _ hXi (by omega) ho hc,hl4,hk4⟩⟩
  | goto t=>
   obtain ⟨hX,hXi⟩:=hp
   obtain ⟨hr,⟨o,ho,hc,hwk⟩,hl4,hk4,hf4⟩:=fin (some (.goto t)) X hX
   exact ⟨_,_,hr,hf4,.inr ⟨rfl,.goto t,(hIx _).putObj _ hXi (by omega) ho hc,hl4,hk4⟩⟩
  | panic ch=>exact hp.elim
  | outgrown=>exact hp.elim
 ·rintro e X ⟨⟨v,rfl⟩,(⟨xs,hS,hi,hl,hk⟩ | ⟨pre,hSp,c,hi,hl,hk⟩)⟩
  ·have:=run_endLoop (P:=P) hl (by rw [hrec];simp)
   rw [hrec] at this
   exact ⟨none,_,this,hdone _ xs _ (Nat.le_refl _) hS (hI.putObj _ hi (by omega) hl rfl) ((World.putObj_heap_other (by omega)).trans hk)⟩
  ·have:=run_endLoop (P:=P) hl (by rw [hrec];simp)
   rw [hrec] at this
   exact ⟨some c,_,this,hstop _ c pre _ (Nat.le_refl _) hSp ((hIx c).putObj _ hi (by omega) hl rfl) ((World.putObj_heap_other (by omega)).trans hk)⟩
end Go.Proofs.YtenhdijbcdkfbaaGreatDoor.tt
