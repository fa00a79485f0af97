/-
  The document's own deal: what its Begin, Over, Asked, Refused answer and make of it: contracts. No condition but the bounds that each theorem names.
-/
import Derived.Test.YtkpgajegmomihaaDeH
namespace Go.Proofs.Ytkpgajegmomihaa.de
open Go Go.ChangeShapes Go.WideShapes Go.ChangeAt Go.RowKit
open Go.Proofs.Ytkpgajegmomihaa.tt (U zd row tyne add_lit lt_of range_grown setCells_rest heap_setCells heap_setCells_other grown_setCells grown_setRow grown_new grown_drewN below_of grown_alloc grown_refl grown_trans grown_drew)
open Go.Proofs.Ytkpgajegmomihaa.oo (ref flag' gives older ret_bool jump_ret)
set_option linter.unusedVariables false
set_option maxRecDepth 1000000

section
variable {w : World} {g : Nat} {d : Dl}
set_option maxHeartbeats 2000000 in
theorem rbegin_any (I : Inv d) (h : Both w g d) (s : Sv) (x : Int) : Calls Try.prog 22 #[.pointer (some ⟨g, 0, none⟩), .agg (sa s), .int .u64 x] w fun e w' => e = .returned (.int .i64 (bE d x)) ∧ Both w' g (bD d s x) ∧ w.grownBy w' (some g) := by
  obtain ⟨s0, c, h, ha⟩ := h
  have hl := h.lt
  have h0 := I.d0
  have h8 : d.de ≤ 8 := Int.le_trans I.dn I.n8
  obtain ⟨w1, hw1⟩ : ∃ w1, w.alloc (.cells (sa s) 31) = w1 := ⟨_, rfl⟩
  have hg1 : w.grownBy w1 none := hw1 ▸ grown_alloc (grown_refl _ _) _
  have h1 : RAt w1 g (mir d s0 c) := h.grown hg1 (by simp)
  have HR : Hid (w1.rangeAt w.heap.size 0 (sl s)) := Lib.hid (hw1 ▸ sv_new w s _)
  have HW1 := Lib.hid hw1
  have HI := Lib.hid I
  have HA := Lib.hid ha
  obtain ⟨c0, c1, c19, c20, c21, c22⟩ := h1.cells
  have k0 : w1.cell? ⟨g, 0, none⟩ = some (.int .i64 d.ne) := c0
  have k1 : w1.cell? ⟨g, 1, none⟩ = some (.int .i64 d.de) := c1
  have k21 : w1.cell? ⟨g, 21, none⟩ = some (.bool d.fa) := c21
  have H1 := Lib.hid h1
  have HG1 := Lib.hid hg1
  have HLT := Lib.hid hl
  clear h hw1 hg1 h1 c0 c1 c19 c20 c21 c22 hl I ha
  by_cases hx : x = 0
  · subst hx
    clear k0 k1 k21
    have hE : bE d 0 = 2 := by simp [bE]
    go_enter Try.func22, Try.ntmps22
    go_wp2
    rw [HW1.out]
    go_ret
    exact ⟨ret_i hE.symm, by unfold bD; rw [hE]; exact ⟨s0, c, H1.out, HA.out⟩, grown_to HG1.out⟩
  · have hx' : (x == 0) = false := by simp [hx]
    cases hf : d.fa
    · rw [hf] at k21
      by_cases hd : d.de = d.ne
      · have hd' : decide (d.ne ≤ d.de) = true := by simp [hd]
        have hE : bE d x = 7 := by simp [bE, hx, hf, hd]
        go_enter Try.func22, Try.ntmps22
        go_wp2_with (rw [HW1.out])
        go_big_quiet (fail)
        go_wp2
        go_ret
        exact ⟨ret_i hE.symm, by unfold bD; rw [hE]; exact ⟨s0, c, H1.out.same rfl, HA.out⟩, grown_drewN (grown_to HG1.out) _⟩
      · have hd' : decide (d.ne ≤ d.de) = false := by have := HI.out.dn; simp; omega
        have hE : bE d x = 0 := by simp [bE, hx, hf, hd]
        by_cases hz : d.de = 0
        · have HB : Hid (bD d s x = { opn d s x with de := 1 }) := Lib.hid (by unfold bD; rw [hE, if_pos rfl, if_pos hz])
          rw [hz] at k1 hd'
          have HZ := Lib.hid hz
          have HF := Lib.hid hf
          clear hz hd hx hf h0 h8
          go_enter Try.func22, Try.ntmps22
          go_wp2_with (rw [HW1.out])
          go_big_quiet (fail)
          generalize hw2 : w1.drewN nq = w2
          have H2 : Hid (RAt w2 g (mir d s0 c)) := Lib.hid (hw2 ▸ H1.out.same rfl)
          have HG2 : Hid (w.grownBy w2 none) := Lib.hid (hw2 ▸ grown_drewN HG1.out _)
          have HR2 : Hid (w2.rangeAt w.heap.size 0 (sl s)) := Lib.hid (hw2 ▸ HR.out)
          have hne : g ≠ w.heap.size := by have := HLT.out; omega
          obtain ⟨w3, hw3⟩ : ∃ w3, w2.setCell ⟨g, 1, none⟩ (.int .i64 1) = w3 := ⟨_, rfl⟩
          have h3 : RAt w3 g { mir d s0 c with de := 1 } := hw3 ▸ H2.out.put_de 1
          have HT3 : Hid (w3.there g 2 17) := Lib.hid h3.there
          have k1 : w3.cell? ⟨g, 1, none⟩ = some (.int .i64 1) := h3.cells.2.1
          have HR3 : Hid (w3.rangeAt w.heap.size 0 (sl s)) := Lib.hid (range_grown HR2.out (hw3 ▸ grown_setCell w2 g 1 (.int .i64 1)) (by simpa using hne.symm))
          obtain ⟨w4, hw4⟩ : ∃ w4, w3.setCells g 2 (sl s) = w4 := ⟨_, rfl⟩
          have h4 : RAt w4 g { { mir d s0 c with de := 1 } with s := s } := hw4 ▸ h3.put_s s
          have k20 := h4.cells.2.2.2.1
          have k19 : w4.cell? ⟨g, 19, none⟩ = some (.int .u64 d.st) := h4.cells.2.2.1
          have f20 := h4.free 20
          have f19 := h4.free 19
          have c1 : w2.cell? ⟨g, 1, none⟩ = some (.int .i64 d.de) := H2.out.cells.2.1
          rw [HZ.out] at c1
          have f1 := H2.out.free 1
          have HG4 : Hid (w.grownBy w4 (some g)) := Lib.hid (grown_trans (grown_trans (grown_to HG2.out) (hw3 ▸ grown_setCell _ _ _ _)) (hw4 ▸ grown_setCells _ _ _ _))
          have H4 := Lib.hid h4
          have HW2 := Lib.hid hw2
          have HW3 := Lib.hid hw3
          have HW4 := Lib.hid hw4
          clear hw2 hw3 hw4 h3 h4
          by_cases ht : d.st = 0
          · have HO : Hid (opn d s x = { d with s := s, st := x }) := Lib.hid (by unfold opn; rw [if_pos ht])
            rw [ht] at k19
            clear ht
            go_wp2_with (first
              | (rw [HW3.out]; (with_reducible refine load_sv s _ _ 0 ?_ HR3.out ?_); ((rfl)))
              | ((with_reducible refine store_mid s _ _ g 2 ?_ ?_ HT3.out ?_); ((rfl)); ((rfl)); rw [HW4.out]))
            go_ret
            have hfl := HI.out.fl0 HZ.out
            have hfa := HF.out
            rw [HB.out, HO.out]
            refine ⟨rfl, ⟨s, c, ?_, fun _ => rfl, fun h => by rw [show (_ : Bool) = _ from hfa] at h; cases h⟩, grown_trans HG4.out (grown_trans (grown_setCell _ _ _ _) (grown_setCell _ _ _ _))⟩
            have e : mir { { d with s := s, st := x } with de := 1 } s c = { { { { mir d s0 c with de := 1 } with s := s } with fl := false } with st := x } := by simp [mir, hfl]
            rw [e]
            exact (H4.out.put_fl false).put_st x
          · have ht' : (d.st == 0) = false := by simp [ht]
            have HO : Hid (opn d s x = { d with s := s, st := d.st }) := Lib.hid (by unfold opn; rw [if_neg ht])
            clear ht
            go_wp2_with (first
              | (rw [HW3.out]; (with_reducible refine load_sv s _ _ 0 ?_ HR3.out ?_); ((rfl)))
              | ((with_reducible refine store_mid s _ _ g 2 ?_ ?_ HT3.out ?_); ((rfl)); ((rfl)); rw [HW4.out]))
            go_ret
            have hfl := HI.out.fl0 HZ.out
            have hfa := HF.out
            rw [HB.out, HO.out]
            refine ⟨rfl, ⟨s, c, ?_, fun _ => rfl, fun h => by rw [show (_ : Bool) = _ from hfa] at h; cases h⟩, grown_trans HG4.out (grown_setCell _ _ _ _)⟩
            have e : mir { { d with s := s, st := d.st } with de := 1 } s c = { { { { mir d s0 c with de := 1 } with s := s } with fl := false } with st := d.st } := by simp [mir, hfl]
            rw [e]
            exact H4.out.put_fl false
        · have HB : Hid (bD d s x = { d with de := d.de + 1 }) := Lib.hid (by unfold bD; rw [hE, if_pos rfl, if_neg hz])
          have hz1 : decide (1 < d.de + 1) = true := decide_eq_true (by omega)
          have f1 := H1.out.free 1
          have HZ := Lib.hid hz
          clear hz hd hx
          go_enter Try.func22, Try.ntmps22
          go_wp2_with (rw [HW1.out])
          go_big_quiet (fail)
          go_wp2
          go_ret
          rw [HB.out]
          exact ⟨ret_i hE.symm, ⟨s0, c, (H1.out.same (w' := w1.drewN _) rfl).put_de _, fun _ => HA.out.1 HZ.out, HA.out.2⟩, grown_trans (grown_drewN (grown_to HG1.out) _) (grown_setCell _ _ _ _)⟩
    · rw [hf] at k21
      have hE : bE d x = 8 := by simp [bE, hx, hf]
      go_enter Try.func22, Try.ntmps22
      go_wp2_with (rw [HW1.out])
      go_ret
      exact ⟨ret_i hE.symm, by unfold bD; rw [hE]; exact ⟨s0, c, H1.out, HA.out⟩, grown_to HG1.out⟩
theorem rrefused_any (I : Inv d) (h : Both w g d) (x : Int) (hx : 0 ≤ x) : Calls Try.prog 27 #[.pointer (some ⟨g, 0, none⟩), .int .u64 x] w fun e w' => e = .returned (.bool (rF d x)) ∧ ∃ n, w' = w.drewN n := by
  have HV : Hid (∀ n, _) := Lib.hid fun n => oo.gives_ref d.st d.fl x I.stp hx (w.drewN n)
  obtain ⟨c0, c1, c19, c20, c21⟩ := h.cells
  have k1 : ∀ n, (w.drewN n).cell? ⟨g, 1, none⟩ = some (.int .i64 d.de) := fun _ => c1
  have k19 : ∀ n, (w.drewN n).cell? ⟨g, 19, none⟩ = some (.int .u64 d.st) := fun _ => c19
  have k20 : ∀ n, (w.drewN n).cell? ⟨g, 20, none⟩ = some (.bool d.fl) := fun _ => c20
  have k21 : ∀ n, (w.drewN n).cell? ⟨g, 21, none⟩ = some (.bool d.fa) := fun _ => c21
  by_cases hz : 0 < d.de
  · have hz' : decide (0 < d.de) = true := decide_eq_true hz
    cases hf : d.fa
    · have HB : Hid (rF d x = gives d.st d.fl x) := Lib.hid (by
        have : gE d = 0 := by unfold gE; rw [if_neg (by simp [hf]; omega)]
        unfold rF; rw [this]; simp)
      rw [hf] at k21 c21
      clear h c0 hx hf hz I
      go_enter Try.func27, Try.ntmps27
      go_wp2_with fail
      go_quiet (first
        | (go_at_call 35; exact Calls.quiet_of_same ((HV.out _).mono fun _ _ he => ⟨he.1, he.2.symm⟩)))
      go_wp2_with fail
      go_ret
      exact ⟨ret_bool HB.out.symm, _, rfl⟩
    · have HB : Hid (rF d x = false) := Lib.hid (by
        have : gE d = 8 := by unfold gE; rw [if_pos (.inr hf)]
        unfold rF; rw [this]; simp)
      rw [hf] at k21 c21
      clear h c0 hx hf hz I
      go_enter Try.func27, Try.ntmps27
      go_wp2_with fail
      go_quiet (fail)
      go_wp2_with fail
      go_ret
      exact ⟨ret_bool HB.out.symm, _, rfl⟩
  · have h0 : d.de = 0 := by have := I.d0; omega
    have HB : Hid (rF d x = false) := Lib.hid (by
      have : gE d = 8 := by unfold gE; rw [if_pos (.inl h0)]
      unfold rF; rw [this]; simp)
    simp only [h0] at c1 k1
    clear h c0 hx hz I h0
    go_enter Try.func27, Try.ntmps27
    go_wp2_with fail
    go_quiet (fail)
    go_wp2_with fail
    go_ret
    exact ⟨ret_bool HB.out.symm, _, rfl⟩
theorem rasked_any (I : Inv d) (h : Both w g d) (m : Bool) (x : Int) (hx : 0 ≤ x) : Calls Try.prog 26 #[.pointer (some ⟨g, 0, none⟩), .bool m, .int .u64 x] w fun e w' => e = .returned (.bool (ref (sT d) m)) ∧ Both w' g (aD d m x) ∧ w.grownBy w' (some g) := by
  have HV : Hid (∀ n, _) := Lib.hid fun n => oo.asked_ref (sT d) d.fl m x (sT_pos I) hx (w.drewN n)
  have HS : Hid (∀ n, _) := Lib.hid fun n => rstamp_any (h.same (w' := w.drewN n) rfl)
  obtain ⟨c0, c1, c19, c20, c21⟩ := h.cells
  obtain ⟨s, c, h, ha⟩ := h
  have k20 : ∀ n, (w.drewN n).cell? ⟨g, 20, none⟩ = some (.bool d.fl) := fun _ => c20
  have f20 : ∀ n, (w.drewN n).frozen? ⟨g, 20, none⟩ = false := fun _ => h.free 20
  have H := Lib.hid (And.intro h ha)
  clear h ha c0 c1 c19 c21 hx I
  go_enter Try.func26, Try.ntmps26
  go_wp2_with fail
  go_quiet (first
    | (go_at_call 28; exact Calls.quiet_of_same ((HS.out _).mono fun _ _ he => ⟨he.1, he.2.symm⟩))
    | (go_at_call 34; exact Calls.quiet_of_same ((HV.out _).mono fun _ _ he => ⟨he.1, he.2.symm⟩)))
  go_wp2_with fail
  go_ret
  exact ⟨rfl, ⟨s, c, (H.out.1.same (w' := w.drewN _) rfl).put_fl _, H.out.2.1, H.out.2.2⟩, grown_trans (grown_drewN (grown_refl _ _) _) (grown_setCell _ _ _ _)⟩
end
end Go.Proofs.Ytkpgajegmomihaa.de
