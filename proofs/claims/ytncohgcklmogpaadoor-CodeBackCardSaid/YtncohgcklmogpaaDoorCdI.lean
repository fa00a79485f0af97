/-
  What the document's own Word and Put answer. No condition but the bounds that each theorem names.
-/
import Derived.Test.YtncohgcklmogpaaDoorCdH
namespace Go.Proofs.YtncohgcklmogpaaDoor.cd
open Go Go.ChangeShapes Go.WideShapes Go.ChangeAt Go.RowKit
set_option linter.unusedVariables false
set_option maxRecDepth 1000000

set_option maxHeartbeats 2000000 in
theorem rword_low (op : Nat) (a b c n : Int) (w : World) (ho : op < 22) (ha : 0 ≤ a ∧ a ≤ 15) (hb : 0 ≤ b ∧ b ≤ 15) (hc : 0 ≤ c ∧ c ≤ 15) (hn : 0 ≤ n ∧ n ≤ 2097151) : Calls Tryd.prog 18 #[.agg (ca ⟨op, a, b, c, n⟩)] w fun e w' => e = .returned (.int .u32 (wd ⟨op, a, b, c, n⟩)) ∧ w.grownBy w' none := by
  have HG : Hid (w.grownBy (w.alloc (.cells (ca ⟨op, a, b, c, n⟩) 27)) none) := Lib.hid (grown_alloc (grown_refl _ _) _)
  have HF : Hid (∀ w, _) := Lib.hid fun w => form_any op w
  have hv : wd ⟨op, a, b, c, n⟩ = ((((op : Int) * 16 + a) * 16 + b) * 16 + c) * 16384 + n := by unfold wd nn; simp only; rw [if_neg (by omega)]; omega
  rw [hv]
  unfold ca at *
  have e1 : decide (n < 0) = false := decide_eq_false (by omega)
  by_cases hf : rf op = 2
  · rw [hf] at HF
    clear hf hv
    go_enter Tryd.func18, Tryd.ntmps18
    go_wp2_with (first
      | (go_at_call 21; ((with_reducible refine (HF.out _).mono ?_); rintro e w1 ⟨rfl, rfl⟩)))
    go_ret
    exact ⟨rfl, HG.out⟩
  · have e2 : ((rf op : Int) == 2) = false := beq_eq_false_iff_ne.2 (by omega)
    have e3 : ((rf op : Int) != 2) = true := by simp; omega
    clear hf hv
    go_enter Tryd.func18, Tryd.ntmps18
    go_wp2_with (first
      | (go_at_call 21; ((with_reducible refine (HF.out _).mono ?_); rintro e w1 ⟨rfl, rfl⟩)))
    go_ret
    exact ⟨rfl, HG.out⟩
set_option maxHeartbeats 2000000 in
theorem rword_neg (op : Nat) (a b c n d : Int) (w : World) (hd : d = if rf op = 2 then 16384 else 4194304) (ho : op < 22) (ha : 0 ≤ a ∧ a ≤ 15) (hb : 0 ≤ b ∧ b ≤ 15) (hc : 0 ≤ c ∧ c ≤ 15) (hn : n < 0) (hl : 0 ≤ n + d) : Calls Tryd.prog 18 #[.agg (ca ⟨op, a, b, c, n⟩)] w fun e w' => e = .returned (.int .u32 (wd ⟨op, a, b, c, n⟩)) ∧ w.grownBy w' none := by
  have HG : Hid (w.grownBy (w.alloc (.cells (ca ⟨op, a, b, c, n⟩) 27)) none) := Lib.hid (grown_alloc (grown_refl _ _) _)
  have HF : Hid (∀ w, _) := Lib.hid fun w => form_any op w
  have hr : rf op = fm op := by unfold rf; rw [if_pos ho]
  have hv : wd ⟨op, a, b, c, n⟩ = ((((op : Int) * 16 + a) * 16 + b) * 16 + c) * 16384 + (n + d) := by unfold wd nn; simp only; rw [if_pos hn, ← hr, ← hd]; omega
  rw [hv]
  clear hr hv
  unfold ca at *
  have e1 : decide (n < 0) = true := decide_eq_true hn
  by_cases hf : rf op = 2
  · rw [hf] at HF
    rw [if_pos hf] at hd
    subst hd
    clear hf
    go_enter Tryd.func18, Tryd.ntmps18
    go_wp2_with (first
      | (go_at_call 21; ((with_reducible refine (HF.out _).mono ?_); rintro e w1 ⟨rfl, rfl⟩)))
    go_ret
    exact ⟨rfl, HG.out⟩
  · have e2 : ((rf op : Int) == 2) = false := beq_eq_false_iff_ne.2 (by omega)
    have e3 : ((rf op : Int) != 2) = true := by simp; omega
    rw [if_neg hf] at hd
    subst hd
    clear hf
    go_enter Tryd.func18, Tryd.ntmps18
    go_wp2_with (first
      | (go_at_call 21; ((with_reducible refine (HF.out _).mono ?_); rintro e w1 ⟨rfl, rfl⟩)))
    go_ret
    exact ⟨rfl, HG.out⟩
theorem us_n {f : Nat} (h : f < 7) : -(if f = 2 then 16384 else 4194304 : Int) ≤ (us f).ln ∧ (us f).hn ≤ 2097151 := by
  rcases form_cases h with rfl | rfl | rfl | rfl | rfl | rfl | rfl <;> simp [us]
theorem rword_any (c : Cd) (w : World) (h : may c = true) : Calls Tryd.prog 18 #[.agg (ca c)] w fun e w' => e = .returned (.int .u32 (wd c)) ∧ w.grownBy w' none := by
  obtain ⟨ho, h1, h2, h3, h4⟩ := may_parts h
  have hr := us_reg (fm_lt c.op)
  have hn := us_n (fm_lt c.op)
  obtain ⟨op, a, b, c, n⟩ := c
  simp only at ho h1 h2 h3 h4 hr hn
  have hq : rf op = fm op := by unfold rf; rw [if_pos ho]
  rw [← hq] at hn h4
  by_cases h0 : n < 0
  · exact rword_neg op a b c n _ w rfl ho (by omega) (by omega) (by omega) h0 (by omega)
  · exact rword_low op a b c n w ho (by omega) (by omega) (by omega) (by omega)
set_option maxHeartbeats 1000000 in
theorem rput_any (c : Cd) (w : World) (h8 : c.op < 256) : Calls Tryd.prog 11 #[.agg (ca c)] w fun e w' => e = .returned (.tuple #[.int .u32 (putw c), .int .i64 (err (may c))]) ∧ w.grownBy w' none := by
  have HG : Hid (w.grownBy (w.alloc (.cells (ca c) 27)) none) := Lib.hid (grown_alloc (grown_refl _ _) _)
  have HM := Lib.hid (rmay_any c (w.alloc (.cells (ca c) 27)) h8)
  have HA := Lib.hid (fun w' (h : (w.alloc (.cells (ca c) 27)).grownBy w' none) => cells5 (row_grown (heap_alloc_new w (.cells (ca c) 27)) h))
  unfold putw
  cases hm : may c
  · rw [hm] at HM
    clear h8 hm
    obtain ⟨op, a, b, c, n⟩ := c
    unfold ca at *
    go_enter Tryd.func11, Tryd.ntmps11
    go_wp2_with (first | (go_at_call 13; ((with_reducible refine HM.out.mono ?_); rintro e w1 ⟨rfl, hg1⟩; have HG1 := Lib.hid (grown_trans HG.out hg1); clear hg1)))
    go_ret2
    exact ⟨rfl, HG1.out⟩
  · rw [hm] at HM
    have HW : Hid (∀ w', _) := Lib.hid fun w' => rword_any c w' hm
    obtain ⟨v, hv⟩ : ∃ v, v = wd c := ⟨_, rfl⟩
    rw [← hv] at HW ⊢
    clear h8 hm hv
    obtain ⟨op, a, b, c, n⟩ := c
    unfold ca at *
    go_enter Tryd.func11, Tryd.ntmps11
    go_wp2_with (first
      | (go_at_call 13; ((with_reducible refine HM.out.mono ?_); rintro e w1 ⟨rfl, hg1⟩; have HG1 := Lib.hid (grown_trans HG.out hg1); obtain ⟨c0, c1, c2, c3, c4⟩ := HA.out _ hg1; clear hg1))
      | (go_at_call 18; ((with_reducible refine (HW.out _).mono ?_); rintro e w2 ⟨rfl, hg2⟩; have HG2 := Lib.hid (grown_trans HG1.out hg2); clear hg2)))
    go_ret2
    exact ⟨rfl, HG2.out⟩
end Go.Proofs.YtncohgcklmogpaaDoor.cd
