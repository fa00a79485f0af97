/-
  The landed deal: what Begin, End, Fail answer and make of it: contracts. No condition but the bounds that each theorem names.
-/
import Derived.Test.YtkpgajegmomihaaDeC
namespace Go.Proofs.Ytkpgajegmomihaa.de
open Go Go.ChangeShapes Go.WideShapes Go.ChangeAt Go.RowKit
open Go.Proofs.Ytkpgajegmomihaa.tt (U zd row tyne add_lit lt_of range_grown setCells_rest heap_setCells heap_setCells_other grown_setCells grown_setRow grown_new grown_drewN below_of grown_alloc grown_refl grown_trans grown_drew)
open Go.Proofs.Ytkpgajegmomihaa.oo (ref flag' gives older ret_bool jump_ret)
set_option linter.unusedVariables false
set_option maxRecDepth 1000000

section
variable {w : World} {g : Nat} {d : Dl}
set_option maxHeartbeats 1000000 in
theorem begin_any (h : LAt w g d) (s : Sv) (x : Int) (h0 : 0 ≤ d.de) (h8 : d.de ≤ 8) : Calls Try.prog 10 #[.pointer (some ⟨g, 0, none⟩), .agg (sa s), .int .u64 x] w fun e w' => e = .returned (.int .i64 (bE d x)) ∧ LAt w' g (bD d s x) ∧ w.grownBy w' (some g) := by
  have hl := h.lt
  obtain ⟨w1, hw1⟩ : ∃ w1, w.alloc (.cells (sa s) 31) = w1 := ⟨_, rfl⟩
  have hg1 : w.grownBy w1 (some g) := hw1 ▸ grown_to (grown_alloc (grown_refl _ _) _)
  have h1 : LAt w1 g d := h.grown (own := none) (hw1 ▸ grown_alloc (grown_refl _ _) _) (by simp)
  have HR : Hid (w1.rangeAt w.heap.size 0 (sl s)) := Lib.hid (hw1 ▸ sv_new w s _)
  have HW1 := Lib.hid hw1
  obtain ⟨c0, c1, c19, c20, c21, c22⟩ := h1.cells
  have H1 := Lib.hid h1
  have HG1 := Lib.hid hg1
  clear h hw1 hg1 h1 c19 c20 c22 hl
  by_cases hx : x = 0
  · subst hx
    go_enter Try.func10, Try.ntmps10
    go_wp2
    rw [HW1.out]
    refine wp_scope_tail 0 rfl ?_
    go_wp2
    go_step3
    refine ⟨rfl, ?_⟩
    go_wp2
    rw [jump_ret]
    go_ret
    have hE : bE d 0 = 2 := by simp [bE]
    exact ⟨ret_i hE.symm, by unfold bD; rw [hE]; exact H1.out, HG1.out⟩
  · have hx' : (x == 0) = false := by simp [hx]
    cases hf : d.fa
    · rw [hf] at c21
      by_cases hd : d.de = d.ne
      · have hd' : (d.de == d.ne) = true := by simp [hd]
        go_enter Try.func10, Try.ntmps10
        go_wp2
        rw [HW1.out]
        refine wp_scope_tail 0 rfl ?_
        go_wp2
        go_big_quiet (fail)
        go_wp2
        go_step3
        refine ⟨rfl, ?_⟩
        go_wp2
        rw [jump_ret]
        go_ret
        have hE : bE d x = 7 := by simp [bE, hx, hf, hd]
        exact ⟨ret_i hE.symm, by unfold bD; rw [hE]; exact H1.out.same rfl, grown_drewN HG1.out _⟩
      · have hd' : (d.de == d.ne) = false := by simp [hd]
        have hE : bE d x = 0 := by simp [bE, hx, hf, hd]
        by_cases hz : d.de = 0
        · have hz' : (d.de == 0) = true := by simp [hz]
          have HO : Hid (∀ n, _) := Lib.hid fun n => open_any (H1.out.same (w' := w1.drewN n) rfl) s x
          have HB : Hid (bD d s x = { opn d s x with de := 1 }) := Lib.hid (by unfold bD; rw [hE, if_pos rfl, if_pos hz])
          rw [hz] at c1 hd'
          have HZ := Lib.hid hz
          have HRn : Hid (∀ n, (w1.drewN n).rangeAt w.heap.size 0 (sl s)) := Lib.hid fun _ => HR.out
          clear hz hz' hd hx
          go_enter Try.func10, Try.ntmps10
          go_wp2
          rw [HW1.out]
          refine wp_scope_tail 0 rfl ?_
          go_wp2
          go_big_quiet (fail)
          go_wp2_with (first
            | ((with_reducible refine load_sv s _ _ 0 ?_ (HRn.out _) ?_); ((rfl)))
            | (go_at_call 29; (with_reducible refine (HO.out _).mono ?_); rintro e w3 ⟨rfl, h3, hg3⟩; have k1 := h3.cells.2.1; (rw [show (opn d s x).de = 0 from HZ.out] at k1); have f1 := h3.free 1; have H3 := Lib.hid h3; have HG3 := Lib.hid hg3; clear h3 hg3))
          go_step3
          go_wp2
          rw [jump_ret]
          go_ret
          refine ⟨ret_i hE.symm, ?_, grown_trans (grown_trans (grown_drewN HG1.out _) HG3.out) (grown_setCell _ _ _ _)⟩
          rw [HB.out]
          exact H3.out.put_de 1
        · have hz' : (d.de == 0) = false := by simp [hz]
          have HB : Hid (bD d s x = { d with de := d.de + 1 }) := Lib.hid (by unfold bD; rw [hE, if_pos rfl, if_neg hz])
          have f1 := H1.out.free 1
          clear hz hd hx
          go_enter Try.func10, Try.ntmps10
          go_wp2
          rw [HW1.out]
          refine wp_scope_tail 0 rfl ?_
          go_wp2
          go_big_quiet (fail)
          go_wp2
          go_step3
          go_wp2
          rw [jump_ret]
          go_ret
          refine ⟨ret_i hE.symm, ?_, grown_trans (grown_drewN HG1.out _) (grown_setCell _ _ _ _)⟩
          rw [HB.out]
          exact (H1.out.same (w' := w1.drewN _) rfl).put_de _
    · rw [hf] at c21
      go_enter Try.func10, Try.ntmps10
      go_wp2
      rw [HW1.out]
      refine wp_scope_tail 0 rfl ?_
      go_wp2
      go_step3
      refine ⟨rfl, ?_⟩
      go_wp2
      rw [jump_ret]
      go_ret
      have hE : bE d x = 8 := by simp [bE, hx, hf]
      exact ⟨ret_i hE.symm, by unfold bD; rw [hE]; exact H1.out, HG1.out⟩
end
end Go.Proofs.Ytkpgajegmomihaa.de
