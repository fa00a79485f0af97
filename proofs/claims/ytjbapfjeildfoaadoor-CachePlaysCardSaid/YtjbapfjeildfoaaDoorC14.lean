/-
  works returns true: the walk. Condition: the table of bounds lies in its variable as the program's text has it.
-/
import Derived.Test.YtjbapfjeildfoaaDoorC13
namespace Go.Proofs.YtjbapfjeildfoaaDoor.kk
open Go Go.ChangeShapes Go.WideShapes Go.ChangeAt Go.RowKit Go.Shelf
set_option linter.unusedVariables false

def S0 : List St := empty pairC
def S1 : List St := (cput pairC S0 (mk 4 1)).1
def S2 : List St := (cput pairC S1 (mk 6 2)).1
theorem e1 : (cput pairC S0 (mk 4 1)).2 = 0 := by decide +kernel
theorem e2 : (cput pairC S1 (mk 6 2)).2 = 0 := by decide +kernel
theorem e3 : cput pairC S2 (mk 5 1) = (S2, 7) := by decide +kernel
theorem e4 : cgoes pairC S2 5 = (mk 4 1, true) := by decide +kernel
theorem e5 : (told S2).length = 2 := by decide +kernel

section
variable {w w1 w2 : World} {K : Loc}
/-- What a loop over calls on a cache that is new keeps. -/
structure Go1 (w w1 : World) (K : Loc) (c : Cfg) (ss : List St) : Prop where
  cac : Cac w1 K c ss
  grown : w.grownBy w1 none
  new : ∀ k, K.any k → w.heap.size ≤ k
theorem Go1.next {c : Cfg} {ss ss' : List St} (h : Go1 w w1 K c ss) (hc : Cac w2 K c ss') (hk : Kept K.own w1 w2) : Go1 w w2 K c ss' := ⟨hc, hk.below h.grown (fun k hk => h.new k (.inr hk)), h.new⟩
theorem Go1.more {c : Cfg} {ss : List St} (h : Go1 w w1 K c ss) (hg : w1.grownBy w2 none) : Go1 w w2 K c ss := ⟨h.cac.grown hg, grown_trans h.grown hg, h.new⟩
end
theorem ln_next {wz wx wy : World} {B : Nat} {l : Ln} (h : wx.rangeAt B 0 (ln l) ∧ wz.grownBy wx none) (k : wx.grownBy wy none) : wy.rangeAt B 0 (ln l) ∧ wz.grownBy wy none :=
  ⟨range_grown h.1 k (by simp), grown_trans h.2 k⟩

set_option maxRecDepth 1000000 in
set_option maxHeartbeats 2000000 in
theorem works_any (w : World) (hT : Tab w) : Calls Tryd.prog 10 #[] w fun e w' => e = .returned (.bool true) ∧ w.grownBy w' none := by
  have HT := Lib.hid (fun w' (h : w.grownBy w' none) => hT.grown h)
  have HP := Lib.hid (pair_any w)
  have HN : Hid (∀ w', w.grownBy w' none → _) := Lib.hid (fun w' h => new_ok pairC w' (hT.grown h) pair_may)
  have hq36 := q36e
  have hdec : decide (mk 4 1 = mk 4 1) = true := by decide
  clear hT
  go_enter Tryd.func10, Tryd.ntmps10
  go_wp2_with (first
    | (go_at_call 9; ((with_reducible refine HP.out.mono ?_); rintro e w0 ⟨rfl, hg0⟩; have HG0 := Lib.hid hg0; clear hg0))
    | (go_at_call 8; ((with_reducible refine (HN.out _ HG0.out).mono ?_); rintro e w1 ⟨K, rfl, hc1, hg1, hf1⟩; have H1 : Hid (Go1 w w1 K pairC S0) := Lib.hid ⟨hc1, grown_trans HG0.out hg1, fun k hk => Nat.le_trans HG0.out.size (hf1 k hk)⟩; clear hc1 hg1 hf1))
    | (go_at_call 12; ((with_reducible refine (line_any 4 1 _).mono ?_); rintro e w2 ⟨rfl, hg2⟩; have H2 := Lib.hid (H1.out.more hg2); clear hg2 H1))
    | (go_at_call 11; ((with_reducible refine (put_any K pairC S0 _ H2.out.cac (HT.out _ H2.out.grown) (mk 4 1)).mono ?_); rintro e w3 ⟨he, hc3, hk3⟩; (rw [e1] at he); subst he; have H3 : Hid (Go1 w w3 K pairC S1) := Lib.hid (H2.out.next hc3 hk3); clear hc3 hk3 H2))
    | (go_at_call 12; ((with_reducible refine (line_any 6 2 _).mono ?_); rintro e w4 ⟨rfl, hg4⟩; have H4 := Lib.hid (H3.out.more hg4); clear hg4 H3))
    | (go_at_call 11; ((with_reducible refine (put_any K pairC S1 _ H4.out.cac (HT.out _ H4.out.grown) (mk 6 2)).mono ?_); rintro e w5 ⟨he, hc5, hk5⟩; (rw [e2] at he); subst he; have H5 : Hid (Go1 w w5 K pairC S2) := Lib.hid (H4.out.next hc5 hk5); clear hc5 hk5 H4))
    | (go_at_call 12; ((with_reducible refine (line_any 5 1 _).mono ?_); rintro e w6 ⟨rfl, hg6⟩; have H6 := Lib.hid (H5.out.more hg6); clear hg6 H5))
    | (go_at_call 11; ((with_reducible refine (put_any K pairC S2 _ H6.out.cac (HT.out _ H6.out.grown) (mk 5 1)).mono ?_); rintro e w7 ⟨he, hc7, hk7⟩; (rw [e3] at he hc7); subst he; have H7 : Hid (Go1 w w7 K pairC S2) := Lib.hid (H6.out.next hc7 hk7); clear hc7 hk7 H6))
    | (go_at_call 14; ((with_reducible refine (goes_any K pairC S2 _ H7.out.cac (HT.out _ H7.out.grown) 5).mono ?_); rintro e w8 ⟨he, hg8⟩; (rw [e4] at he); subst he; have H8 := Lib.hid (H7.out.more hg8); clear hg8 H7))
    | ((with_reducible refine store_new' (mk 4 1) 3 37 ?_ ?_ ?_); (rfl); (rfl)))
  have HS : Hid ((w8.alloc (.cells (la (mk 4 1)) 36)).drew.rangeAt w8.heap.size 0 (ln (mk 4 1)) ∧ w8.grownBy (w8.alloc (.cells (la (mk 4 1)) 36)).drew none) :=
    Lib.hid ⟨range_of (heap_alloc_new _ _), grown_drew (grown_alloc (grown_refl _ _) _)⟩
  obtain ⟨t, nn, HTT, hagg, hsize, hld, hsz, hst⟩ := named2
  have hld := hld w8.heap.size 0 (mk 4 1)
  clear hst hsz
  rw [HTT.out.1]
  go_region_held (fun w' => w'.rangeAt w8.heap.size 0 (ln (mk 4 1)) ∧ w8.grownBy w' none) (first | exact HS.out | exact ln_next (by assumption) (by assumption))
    (first
      | (go_at_call 12; ((refine (line_any 4 1 _).mono ?_); rintro e w9 ⟨rfl, hg9⟩))
      | (go_at_call 19; ((refine (len_any K pairC S2 _ (H8.out.cac.grown (And.right (by assumption)))).mono ?_); rintro e w10 ⟨he, hg10⟩; (rw [e5] at he); subst he)))
  go_wp2_with fail
  go_ret
  exact ⟨rfl, grown_trans H8.out.grown (grown_trans (grown_drew (grown_alloc (grown_refl _ _) _)) (grown_trans hg9 hg10))⟩
end Go.Proofs.YtjbapfjeildfoaaDoor.kk
