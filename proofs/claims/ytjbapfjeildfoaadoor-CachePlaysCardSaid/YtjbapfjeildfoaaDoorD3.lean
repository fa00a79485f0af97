/-
  What the document's own May (of a line), Put answer, and what its cache is behind it: contracts. Condition: that a line stands in its block's set alone.
-/
import Derived.Test.YtjbapfjeildfoaaDoorD2
namespace Go.Proofs.YtjbapfjeildfoaaDoor.kk
open Go Go.ChangeShapes Go.WideShapes Go.ChangeAt Go.RowKit Go.Shelf
set_option linter.unusedVariables false

theorem rlmay_any (l : Ln) (w : World) : Calls Tryd.prog 55 #[.agg (la l)] w fun e w' => e = .returned (.bool (decide l.may)) ∧ w.grownBy w' none := by
  obtain ⟨h0, h1⟩ := box_ln w l
  have HG : Hid (w.grownBy (w.alloc (.cells (la l) 36)) none) := Lib.hid (grown_alloc (grown_refl _ _) _)
  have HM : Hid (∀ x : Bool, (x = true ↔ l.may) → x = decide l.may) := Lib.hid (fun x h => by cases x <;> simp_all)
  unfold Ln.may at HM
  have fin : ∀ (P : Prop), (∀ a b c d : Bool, decide (0 ≤ l.b) = a → decide (l.b ≤ 255) = b → decide (1 ≤ l.s) = c → decide (l.s ≤ 3) = d → P) → P := fun P h => h _ _ _ _ rfl rfl rfl rfl
  refine fin _ (fun a b c d e1 e2 e3 e4 => ?_)
  have HF : Hid ((a && b && c && d) = decide l.may) := Lib.hid (HM.out _ (by
    rw [← e1, ← e2, ← e3, ← e4]
    simp only [Bool.and_eq_true, decide_eq_true_eq]
    omega))
  clear fin HM
  cases a
  · rw [show (false && b && c && d) = false by simp] at HF
    rw [← HF.out]
    go_enter Tryd.func55, Tryd.ntmps55
    go_wp2
    go_ret
    exact ⟨rfl, HG.out⟩
  cases b
  · rw [show (true && false && c && d) = false by simp] at HF
    rw [← HF.out]
    go_enter Tryd.func55, Tryd.ntmps55
    go_wp2
    go_ret
    exact ⟨rfl, HG.out⟩
  cases c
  · rw [show (true && true && false && d) = false by simp] at HF
    rw [← HF.out]
    go_enter Tryd.func55, Tryd.ntmps55
    go_wp2
    go_ret
    exact ⟨rfl, HG.out⟩
  rw [show (true && true && true && d) = d by simp] at HF
  rw [← HF.out]
  go_enter Tryd.func55, Tryd.ntmps55
  go_wp2
  go_ret
  exact ⟨rfl, HG.out⟩
theorem kept2 {w1 : World} {b o B g o2 n : Nat} {v : Value} {l : Ln} (c1 : w1.cell? ⟨b, o, none⟩ = some v) (hr : w1.rangeAt B 0 (ln l)) (ht : w1.there g o2 18) (h1 : b ≠ g) (h2 : B ≠ g) :
    (w1.drew.setCells g o2 (ln l)).cell? ⟨b, o, none⟩ = some v ∧ (w1.drew.setCells g o2 (ln l)).rangeAt B 0 (ln l) ∧ (w1.drew.setCells g o2 (ln l)).there g o2 18 := kept3 c1 hr ht h1 h2
section
variable (R : RLoc) (c : Cfg) (ss : List St) (w : World) (hR : Rac w R c ss) (hI : Inv c ss)
include hR hI
omit hR hI in
theorem rput_bad (l : Ln) (hl : ¬ l.may) : Calls Tryd.prog 38 #[.pointer (some ⟨R.b, 0, none⟩), .agg (la l)] w fun e w' => e = .returned (.int .i64 2) ∧ w.grownBy w' none := by
  have HM := Lib.hid (rlmay_any l (w.alloc (.cells (la l) 36)))
  rw [decide_eq_false hl] at HM
  have HR := Lib.hid (range_of (heap_alloc_new w (.cells (la l) 36)))
  have HG : Hid (w.grownBy (w.alloc (.cells (la l) 36)) none) := Lib.hid (grown_alloc (grown_refl _ _) _)
  clear hl
  go_enter Tryd.func38, Tryd.ntmps38
  go_wp2_with (first
    | ((with_reducible refine load_ln l 3 w.heap.size 0 ?_ HR.out ?_); ((rfl)))
    | (go_at_call 55; ((with_reducible refine HM.out.mono ?_); rintro e w1 ⟨rfl, hg1⟩; have HG1 := Lib.hid hg1; clear hg1)))
  go_ret
  exact ⟨rfl, grown_trans HG.out HG1.out⟩
omit hI in
/-- The line's store, and what was used. -/
theorem rput_at (l : Ln) (k : Nat) (hk : k < (setAt c ss l.b).1.length) (w1 : World) (hg : w.grownBy w1 none) : Calls Tryd.prog 58 #[.pointer (some ⟨R.b, 0, none⟩), .int .i64 ((setOf c l.b * (setAt c ss l.b).1.length + k : Nat) : Int)] (w1.setCells R.gl ((setOf c l.b * (setAt c ss l.b).1.length + k) * 18) (ln l)) fun e w' =>
    e = .returned (.tuple #[]) ∧ Rac w' R c (ss.set (setOf c l.b) ((setAt c ss l.b).1.set k l, us (setAt c ss l.b).2 (setAt c ss l.b).1.length k)) ∧ Kept R.own w w' := by
  have h1 := hR.grown hg
  have hin : setOf c l.b * (setAt c ss l.b).1.length + k < (rowAll ss).length := by
    have := rowAll_get hR.wid (hR.at l.b) (List.getElem?_eq_getElem hk)
    rw [hR.wid _ (List.mem_of_getElem? (hR.at l.b))]
    exact (List.getElem?_eq_some_iff.1 this).1
  have h2 := h1.setLine (hR.at l.b) hk l (grown_setCells _ _ _ _) (h1.row.store _ hin l)
  have hsl : setOf c l.b < ss.length := (List.getElem?_eq_some_iff.1 (hR.at l.b)).1
  have hu := rused_any R c _ _ h2 (setOf c l.b) k _ (List.getElem?_set_self hsl) (by simpa using hk)
  simp only [set_set_row, List.length_set] at hu
  exact hu.mono fun e w' h => ⟨h.1, h.2.1, ((Kept.of hg).trans (Kept.one (grown_setCells _ _ _ _) (.inl rfl))).trans h.2.2⟩
omit hI in
theorem rfree_yes (b : Int) (k : Nat) (hf : (setAt c ss b).1.findIdx? isFree = some k) : Calls Tryd.prog 57 #[.pointer (some ⟨R.b, 0, none⟩), .int .i64 b] w fun e w' => e = .returned (.int .i64 ((setOf c b * (setAt c ss b).1.length + k : Nat) : Int)) ∧ w.grownBy w' none := by
  have h := rfree_any R c ss w hR b
  rw [hf, ← hR.wid _ (List.mem_of_getElem? (hR.at b))] at h
  exact h
omit hI in
theorem rfree_no (b : Int) (hf : (setAt c ss b).1.findIdx? isFree = none) : Calls Tryd.prog 57 #[.pointer (some ⟨R.b, 0, none⟩), .int .i64 b] w fun e w' => e = .returned (.int .i64 (-1)) ∧ w.grownBy w' none := by
  have h := rfree_any R c ss w hR b
  rw [hf] at h
  exact h
set_option maxRecDepth 1000000 in
set_option maxHeartbeats 1000000 in
theorem rput_old (l : Ln) (hl : l.may) (k : Nat) (hn : (setAt c ss l.b).1.findIdx? (isOf l.b) = some k) : Calls Tryd.prog 38 #[.pointer (some ⟨R.b, 0, none⟩), .agg (la l)] w fun e w' => e = .returned (.int .i64 0) ∧ Rac w' R c (ss.set (setOf c l.b) ((setAt c ss l.b).1.set k l, us (setAt c ss l.b).2 (setAt c ss l.b).1.length k)) ∧ Kept R.own w w' := by
  have HM := Lib.hid (rlmay_any l (w.alloc (.cells (la l) 36)))
  rw [decide_eq_true hl] at HM
  obtain ⟨h0, h1⟩ := box_ln w l
  have HR := Lib.hid (range_of (heap_alloc_new w (.cells (la l) 36)))
  have hg0 : w.grownBy (w.alloc (.cells (la l) 36)) none := grown_alloc (grown_refl _ _) _
  have HN : Hid (∀ w1, (w.alloc (.cells (la l) 36)).grownBy w1 none → _) := Lib.hid fun w1 hg => rplace_yes R c ss w1 (hR.grown (grown_trans hg0 hg)) hI l.b k hn
  have HP : Hid (∀ w1, (w.alloc (.cells (la l) 36)).grownBy w1 none → _) := Lib.hid fun w1 hg => rput_at R c ss w hR l k (idx_lt hn) w1 (grown_trans hg0 hg)
  obtain ⟨i, hi⟩ : ∃ i, i = setOf c l.b * (setAt c ss l.b).1.length + k := ⟨_, rfl⟩
  have hin : i < (rowAll ss).length := by
    have := rowAll_get hR.wid (hR.at l.b) (List.getElem?_eq_getElem (idx_lt hn))
    rw [hi, hR.wid _ (List.mem_of_getElem? (hR.at l.b))]
    exact (List.getElem?_eq_some_iff.1 this).1
  rw [← hi] at HN HP
  have HX : Hid (∀ w1, (w.alloc (.cells (la l) 36)).grownBy w1 none → w1.cell? ⟨w.heap.size, 0, none⟩ = some (.int .i64 l.b) ∧ w1.cell? ⟨R.b, 8, none⟩ = some (.slice (some ⟨R.gl, 0, none⟩) (rowAll ss).length (rowAll ss).length) ∧ w1.rangeAt w.heap.size 0 (ln l) ∧ w1.there R.gl (i * 18) 18) := Lib.hid fun w1 hg =>
    ⟨hg.cell h0 (by simp), (hR.grown (grown_trans hg0 hg)).lines, range_of (box_grown hg), (hR.grown (grown_trans hg0 hg)).row.there hin⟩
  have hne := hR.ne.1
  have hltg := hR.row.lt
  have d0 : decide ((i : Int) < 0) = false := by simp
  have hi0 : (0 : Int) ≤ (i : Int) := by omega
  have hi1 : (i : Int) < ((rowAll ss).length : Int) := by omega
  generalize (rowAll ss).length = n at *
  clear hR hI hl hn hi hg0 hin h1
  go_enter Tryd.func38, Tryd.ntmps38
  go_wp2_with (first
    | ((with_reducible refine load_ln l 3 w.heap.size 0 ?_ HR.out ?_); ((rfl)))
    | (go_at_call 55; ((with_reducible refine HM.out.mono ?_); rintro e w1 ⟨rfl, hg1⟩; have HG1 := Lib.hid hg1; obtain ⟨b0, c8, hr, ht⟩ := HX.out w1 hg1; clear hg1))
    | (go_at_call 56; ((with_reducible refine (HN.out _ HG1.out).mono ?_); rintro e w2 ⟨rfl, rfl⟩)))
  have HK := Lib.hid (kept2 (n := n) c8 hr ht (fun e => hne e.symm) (by omega))
  have HG2 : Hid (w1.grownBy w1.drew none) := Lib.hid (grown_drew (grown_refl _ _))
  obtain ⟨t, nn, HTT, hagg, hsize, hld, hsz, hst⟩ := named2
  have hsz := hsz l
  have hst := hst R.gl (i * 18) l
  have hld := hld w.heap.size 0 l
  rw [HTT.out.1, HTT.out.2]
  go_region_held (fun w' => w'.cell? ⟨R.b, 8, none⟩ = some (.slice (some ⟨R.gl, 0, none⟩) n n) ∧ w'.rangeAt w.heap.size 0 (ln l) ∧ w'.there R.gl (i * 18) 18) (first | exact ⟨c8, hr, ht⟩ | exact HK.out) (fail)
  go_wp2_with (first
    | (go_at_call 58; ((with_reducible refine (HP.out _ (grown_trans HG1.out HG2.out)).mono ?_); rintro e w2 ⟨rfl, h2⟩; have H2 := Lib.hid h2; clear h2)))
  go_ret
  exact ⟨rfl, H2.out⟩
set_option maxRecDepth 1000000 in
set_option maxHeartbeats 1000000 in
theorem rput_free (l : Ln) (hl : l.may) (k : Nat) (hn : (setAt c ss l.b).1.findIdx? (isOf l.b) = none) (hf : (setAt c ss l.b).1.findIdx? isFree = some k) : Calls Tryd.prog 38 #[.pointer (some ⟨R.b, 0, none⟩), .agg (la l)] w fun e w' => e = .returned (.int .i64 0) ∧ Rac w' R c (ss.set (setOf c l.b) ((setAt c ss l.b).1.set k l, us (setAt c ss l.b).2 (setAt c ss l.b).1.length k)) ∧ Kept R.own w w' := by
  have HM := Lib.hid (rlmay_any l (w.alloc (.cells (la l) 36)))
  rw [decide_eq_true hl] at HM
  obtain ⟨h0, h1⟩ := box_ln w l
  have HR := Lib.hid (range_of (heap_alloc_new w (.cells (la l) 36)))
  have hg0 : w.grownBy (w.alloc (.cells (la l) 36)) none := grown_alloc (grown_refl _ _) _
  have HN : Hid (∀ w1, (w.alloc (.cells (la l) 36)).grownBy w1 none → _) := Lib.hid fun w1 hg => rplace_no R c ss w1 (hR.grown (grown_trans hg0 hg)) hI l.b hn
  have HF : Hid (∀ w1, (w.alloc (.cells (la l) 36)).grownBy w1 none → _) := Lib.hid fun w1 hg => rfree_yes R c ss w1 (hR.grown (grown_trans hg0 hg)) l.b k hf
  have HP : Hid (∀ w1, (w.alloc (.cells (la l) 36)).grownBy w1 none → _) := Lib.hid fun w1 hg => rput_at R c ss w hR l k (idx_lt hf) w1 (grown_trans hg0 hg)
  obtain ⟨i, hi⟩ : ∃ i, i = setOf c l.b * (setAt c ss l.b).1.length + k := ⟨_, rfl⟩
  have hin : i < (rowAll ss).length := by
    have := rowAll_get hR.wid (hR.at l.b) (List.getElem?_eq_getElem (idx_lt hf))
    rw [hi, hR.wid _ (List.mem_of_getElem? (hR.at l.b))]
    exact (List.getElem?_eq_some_iff.1 this).1
  rw [← hi] at HF HP
  have HX : Hid (∀ w1, (w.alloc (.cells (la l) 36)).grownBy w1 none → w1.cell? ⟨w.heap.size, 0, none⟩ = some (.int .i64 l.b) ∧ w1.cell? ⟨R.b, 8, none⟩ = some (.slice (some ⟨R.gl, 0, none⟩) (rowAll ss).length (rowAll ss).length) ∧ w1.rangeAt w.heap.size 0 (ln l) ∧ w1.there R.gl (i * 18) 18) := Lib.hid fun w1 hg =>
    ⟨hg.cell h0 (by simp), (hR.grown (grown_trans hg0 hg)).lines, range_of (box_grown hg), (hR.grown (grown_trans hg0 hg)).row.there hin⟩
  have hne := hR.ne.1
  have hltg := hR.row.lt
  have d0 : decide ((i : Int) < 0) = false := by simp
  have hi0 : (0 : Int) ≤ (i : Int) := by omega
  have hi1 : (i : Int) < ((rowAll ss).length : Int) := by omega
  generalize (rowAll ss).length = n at *
  clear hR hI hl hn hf hi hg0 hin h1
  go_enter Tryd.func38, Tryd.ntmps38
  go_wp2_with (first
    | ((with_reducible refine load_ln l 3 w.heap.size 0 ?_ HR.out ?_); ((rfl)))
    | (go_at_call 55; ((with_reducible refine HM.out.mono ?_); rintro e w1 ⟨rfl, hg1⟩; have HG1 := Lib.hid hg1; obtain ⟨b0, c8, hr, ht⟩ := HX.out w1 hg1; clear hg1))
    | (go_at_call 56; ((with_reducible refine (HN.out _ HG1.out).mono ?_); rintro e w2 ⟨rfl, rfl⟩))
    | (go_at_call 57; ((with_reducible refine (HF.out _ HG1.out).mono ?_); rintro e w3 ⟨rfl, hg3⟩; have HG3 := Lib.hid (grown_trans HG1.out hg3); obtain ⟨b0', c8', hr', ht'⟩ := HX.out w3 HG3.out; clear b0 c8 hr ht hg3)))
  have HK := Lib.hid (kept2 (n := n) c8' hr' ht' (fun e => hne e.symm) (by omega))
  have HG2 : Hid (w3.grownBy w3.drew none) := Lib.hid (grown_drew (grown_refl _ _))
  obtain ⟨t, nn, HTT, hagg, hsize, hld, hsz, hst⟩ := named2
  have hsz := hsz l
  have hst := hst R.gl (i * 18) l
  have hld := hld w.heap.size 0 l
  rw [HTT.out.1, HTT.out.2]
  go_region_held (fun w' => w'.cell? ⟨R.b, 8, none⟩ = some (.slice (some ⟨R.gl, 0, none⟩) n n) ∧ w'.rangeAt w.heap.size 0 (ln l) ∧ w'.there R.gl (i * 18) 18) (first | exact ⟨c8', hr', ht'⟩ | exact HK.out) (fail)
  go_wp2_with (first
    | (go_at_call 58; ((with_reducible refine (HP.out _ (grown_trans HG3.out HG2.out)).mono ?_); rintro e w2 ⟨rfl, h2⟩; have H2 := Lib.hid h2; clear h2)))
  go_ret
  exact ⟨rfl, H2.out⟩
theorem rput_full (l : Ln) (hl : l.may) (hn : (setAt c ss l.b).1.findIdx? (isOf l.b) = none) (hf : (setAt c ss l.b).1.findIdx? isFree = none) : Calls Tryd.prog 38 #[.pointer (some ⟨R.b, 0, none⟩), .agg (la l)] w fun e w' => e = .returned (.int .i64 7) ∧ w.grownBy w' none := by
  have HM := Lib.hid (rlmay_any l (w.alloc (.cells (la l) 36)))
  rw [decide_eq_true hl] at HM
  obtain ⟨h0, h1⟩ := box_ln w l
  have HR := Lib.hid (range_of (heap_alloc_new w (.cells (la l) 36)))
  have hg0 : w.grownBy (w.alloc (.cells (la l) 36)) none := grown_alloc (grown_refl _ _) _
  have HN : Hid (∀ w1, (w.alloc (.cells (la l) 36)).grownBy w1 none → _) := Lib.hid fun w1 hg => rplace_no R c ss w1 (hR.grown (grown_trans hg0 hg)) hI l.b hn
  have HF : Hid (∀ w1, (w.alloc (.cells (la l) 36)).grownBy w1 none → _) := Lib.hid fun w1 hg => rfree_no R c ss w1 (hR.grown (grown_trans hg0 hg)) l.b hf
  have HG0 := Lib.hid hg0
  have HX : Hid (∀ w1, (w.alloc (.cells (la l) 36)).grownBy w1 none → w1.cell? ⟨w.heap.size, 0, none⟩ = some (.int .i64 l.b)) := Lib.hid fun w1 hg => hg.cell h0 (by simp)
  clear hR hI hl hn hf hg0 h1
  go_enter Tryd.func38, Tryd.ntmps38
  go_wp2_with (first
    | ((with_reducible refine load_ln l 3 w.heap.size 0 ?_ HR.out ?_); ((rfl)))
    | (go_at_call 55; ((with_reducible refine HM.out.mono ?_); rintro e w1 ⟨rfl, hg1⟩; have HG1 := Lib.hid hg1; have b0 := HX.out w1 hg1; clear hg1))
    | (go_at_call 56; ((with_reducible refine (HN.out _ HG1.out).mono ?_); rintro e w2 ⟨rfl, rfl⟩))
    | (go_at_call 57; ((with_reducible refine (HF.out _ HG1.out).mono ?_); rintro e w3 ⟨rfl, hg3⟩; have HG3 := Lib.hid (grown_trans HG1.out hg3); clear hg3)))
  go_ret
  exact ⟨rfl, grown_trans HG0.out HG3.out⟩
theorem rput_any (l : Ln) : Calls Tryd.prog 38 #[.pointer (some ⟨R.b, 0, none⟩), .agg (la l)] w fun e w' => e = .returned (.int .i64 (cput c ss l).2) ∧ Rac w' R c (cput c ss l).1 ∧ Kept R.own w w' := by
  unfold cput
  by_cases hl : l.may
  · simp only [if_pos hl]
    unfold wayFor
    cases hn : (setAt c ss l.b).1.findIdx? (isOf l.b) with
    | some i => exact rput_old R c ss w hR hI l hl i hn
    | none =>
      simp only []
      cases hf : (setAt c ss l.b).1.findIdx? isFree with
      | some i => exact rput_free R c ss w hR hI l hl i hn hf
      | none => exact (rput_full R c ss w hR hI l hl hn hf).mono fun e w' h => ⟨h.1, hR.grown h.2, Kept.of h.2⟩
  · simp only [if_neg hl]
    exact (rput_bad R w l hl).mono fun e w' h => ⟨h.1, hR.grown h.2, Kept.of h.2⟩
end
end Go.Proofs.YtjbapfjeildfoaaDoor.kk
