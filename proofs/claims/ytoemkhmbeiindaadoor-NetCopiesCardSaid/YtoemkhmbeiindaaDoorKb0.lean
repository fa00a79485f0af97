/-
  What the laws' walks of a net share: a net of room 200, Send's two answers, what a note's variable keeps. Condition: the tables of bounds and of kinds lie in their variables as the program's text has them.
-/
import Derived.Test.YtoemkhmbeiindaaDoorGc
import Derived.Test.YtoemkhmbeiindaaDoorR
namespace Go.Proofs.YtoemkhmbeiindaaDoor.tt
open Go Go.ChangeShapes Go.WideShapes Go.ChangeAt Go.RowKit Go.Shelf
set_option linter.unusedVariables false

theorem own_bad200 (c : Cfg) (w : World) (hT : Tab w) (h : ¬ c.may) : Calls Tryd.prog 9 #[.agg c.cells, .int .i64 200] w fun e w' => e = .returned (.tuple #[.pointer none, .int .i64 2]) ∧ w.grownBy w' none := own_new_bad c 200 w hT (fun h' => h h'.1)
theorem own_new200 (c : Cfg) (w : World) (hT : Tab w) (hm : c.may) : Calls Tryd.prog 9 #[.agg c.cells, .int .i64 200] w fun e w' => ∃ t p, e = .returned (.tuple #[.pointer (some ⟨t, 0, none⟩), .int .i64 0]) ∧ Own w w' t p c 200 (.slice none 0 0) [] 0 := own_new c 200 w hT hm (by omega) (by omega)
section
variable {w0 w w' : World} {t p r : Nat} {c : Cfg} {v v' u u' : Value} {ns ns' xs ys : List Nt} {h h' : Int}
theorem own_send_yes (hT : Tab w0) (hK : TabK w0) (H : Own w0 w t p c r v ns h) (n : Nt) (hs : fits c n ∧ many ns n.t (net n.k) < r) : Calls Tryd.prog 12 #[.pointer (some ⟨t, 0, none⟩), .agg (na n)] w fun e w' => e = .returned (.int .i64 0) ∧ ∃ v', Own w0 w' t p c r v' (ns ++ [n]) h ∧ NTurn w w' t p v v' :=
  (own_send hT hK H n).mono fun e w' ⟨he, v', ho, ht⟩ => by
    unfold sendE at he
    unfold sendN at ho
    rw [if_pos hs.1, if_pos hs.2] at he
    rw [if_pos hs] at ho
    exact ⟨he, v', ho, ht⟩
theorem own_send_no (hT : Tab w0) (hK : TabK w0) (H : Own w0 w t p c r v ns h) (n : Nt) (hs : ¬ (fits c n ∧ many ns n.t (net n.k) < r)) : ∃ k : Int, (k == 0) = false ∧ Calls Tryd.prog 12 #[.pointer (some ⟨t, 0, none⟩), .agg (na n)] w fun e w' => e = .returned (.int .i64 k) ∧ ∃ v', Own w0 w' t p c r v' ns h ∧ NTurn w w' t p v v' := by
  refine ⟨sendE c r ns n, ?_, (own_send hT hK H n).mono fun e w' ⟨he, v', ho, ht⟩ => ?_⟩
  · unfold sendE
    by_cases hf : fits c n
    · rw [if_pos hf, if_neg (fun e => hs ⟨hf, e⟩)]; rfl
    · rw [if_neg hf]; rfl
  · unfold sendN at ho
    rw [if_neg hs] at ho
    exact ⟨he, v', ho, ht⟩
theorem Own.ne (H : Own w0 w t p c r v ns h) : ∀ g, w.heap.size ≤ g → g ≠ t ∧ g ≠ p ∧ some g ≠ v.ownBlock := fun g hg =>
  ⟨fun e => by have := H.net.lt; omega, fun e => by have := H.net.pool.lt; omega, fun e => by have := H.net.pool.sl.lt g e.symm; omega⟩
/-- A variable that is none of the net's blocks. -/
theorem NTurn.range (hT : NTurn w w' t p v v') {g : Nat} {xs : List Value} (hr : w.rangeAt g 0 xs) (hg : g < w.heap.size) (h : g ≠ t ∧ g ≠ p ∧ some g ≠ v.ownBlock) : w'.rangeAt g 0 xs := fun j x hx => by
  rw [← hr j x hx]
  exact World.cell?_of_block (hT.block g hg h.1 h.2.1 h.2.2)
theorem NTurn.ne (hT : NTurn w w' t p v v') {g : Nat} (hg : g < w.heap.size) (h : g ≠ t ∧ g ≠ p ∧ some g ≠ v.ownBlock) : g ≠ t ∧ g ≠ p ∧ some g ≠ v'.ownBlock := ⟨h.1, h.2.1, hT.next.ne hg h.2.2⟩
theorem neq_self (x : Nt) : ∀ w, (binOp .neq 37 (.agg (na x)) (.agg (na x))).run Tryd.prog w = .ok (.bool false) w := fun w => by rw [q31n, decide_eq_true rfl]; rfl
theorem eql_self (x : Nt) : ∀ w, (binOp .eql 37 (.agg (na x)) (.agg (na x))).run Tryd.prog w = .ok (.bool true) w := fun w => by rw [q31e, decide_eq_true rfl]
theorem snoc_sl {w : World} {v' : Value} {ns : List Nt} {n : Nt} (h : Sl w 37 24 v' (ns.length + 1) (flat nt ns ++ nt n)) : NSl w v' (ns ++ [n]) := by
  show Sl _ _ 24 v' (ns ++ [n]).length (flat nt (ns ++ [n]))
  rw [flat_append, flat_single, List.length_append]; exact h
theorem erase_drop (ns : List Nt) (k : Nat) (h : k < ns.length) : (ns.drop k).eraseIdx 0 = ns.drop (k + 1) := by
  rw [List.eraseIdx_zero, List.tail_drop]
end
end Go.Proofs.YtoemkhmbeiindaaDoor.tt
