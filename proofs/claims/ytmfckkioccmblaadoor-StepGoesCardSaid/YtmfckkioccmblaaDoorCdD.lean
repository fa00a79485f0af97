/-
  The word of an instruction that may be, and that word answers it. The tables are as the program's text lays them (Tab).
-/
import Derived.Test.YtmfckkioccmblaaDoorCdC
namespace Go.Proofs.YtmfckkioccmblaaDoor.cd
open Go Go.ChangeShapes Go.WideShapes Go.ChangeAt Go.RowKit
set_option linter.unusedVariables false
set_option maxRecDepth 1000000

/-- Of an instruction that may be: what its parts are. -/
theorem may_parts {c : Cd} (h : may c = true) : c.op < 22 ∧ ((us (fm c.op)).la ≤ c.a ∧ c.a ≤ (us (fm c.op)).ha) ∧ ((us (fm c.op)).lb ≤ c.b ∧ c.b ≤ (us (fm c.op)).hb) ∧ ((us (fm c.op)).lc ≤ c.c ∧ c.c ≤ (us (fm c.op)).hc) ∧ (us (fm c.op)).ln ≤ c.n ∧ c.n ≤ (us (fm c.op)).hn := by
  have h := of_decide_eq_true h
  obtain ⟨op, a, b, c, n⟩ := c
  have e := h.2
  unfold wh at e
  simp only [Cd.mk.injEq, true_and] at e
  have hf := fm_lt op
  refine ⟨h.1, ?_⟩
  simp only at e ⊢
  rcases form_cases hf with q | q | q | q | q | q | q <;> rw [q] at e ⊢ <;> simp only [us] at e ⊢ <;> exact ⟨(nr_same (by omega)).1 e.1.symm, (nr_same (by omega)).1 e.2.1.symm, (nr_same (by omega)).1 e.2.2.1.symm, (nr_same (by omega)).1 e.2.2.2.symm⟩
theorem may_of {c : Cd} (ho : c.op < 22) (h : ((us (fm c.op)).la ≤ c.a ∧ c.a ≤ (us (fm c.op)).ha) ∧ ((us (fm c.op)).lb ≤ c.b ∧ c.b ≤ (us (fm c.op)).hb) ∧ ((us (fm c.op)).lc ≤ c.c ∧ c.c ≤ (us (fm c.op)).hc) ∧ (us (fm c.op)).ln ≤ c.n ∧ c.n ≤ (us (fm c.op)).hn) : may c = true := by
  refine decide_eq_true ⟨ho, ?_⟩
  obtain ⟨op, a, b, c, n⟩ := c
  have hf := fm_lt op
  unfold wh
  simp only [Cd.mk.injEq, true_and] at h ⊢
  rcases form_cases hf with q | q | q | q | q | q | q <;> rw [q] at h ⊢ <;> simp only [us] at h ⊢ <;> exact ⟨((nr_same (by omega)).2 h.1).symm, ((nr_same (by omega)).2 h.2.1).symm, ((nr_same (by omega)).2 h.2.2.1).symm, ((nr_same (by omega)).2 h.2.2.2).symm⟩
theorem low14 (n : Int) (h0 : -8192 ≤ n) (h1 : n ≤ 8191) : (((n % 4294967296).toNat % 16384 : Nat) : Int) = (if n < 0 then n + 16384 else n) ∧ (n % 4294967296).toNat % 16384 < 2 ^ 14 := by
  refine ⟨?_, by omega⟩
  by_cases h : n < 0
  · rw [if_pos h]; omega
  · rw [if_neg h]; omega
theorem low22 (n : Int) (h0 : -2097152 ≤ n) (h1 : n ≤ 2097151) : (((n % 4294967296).toNat % 4194304 : Nat) : Int) = (if n < 0 then n + 4194304 else n) ∧ (n % 4294967296).toNat % 4194304 < 2 ^ 22 := by
  refine ⟨?_, by omega⟩
  by_cases h : n < 0
  · rw [if_pos h]; omega
  · rw [if_neg h]; omega
theorem low8 (n : Int) (h0 : 0 ≤ n) (h1 : n ≤ 255) : (((n % 4294967296).toNat % 256 : Nat) : Int) = (if n < 0 then n + 4194304 else n) ∧ (n % 4294967296).toNat % 256 < 2 ^ 22 := by
  refine ⟨?_, by omega⟩
  rw [if_neg (by omega)]; omega
theorem top_or (k q x r : Nat) (v : Int) (hx : x = q * 2 ^ k) (hr : (r : Int) = v) (hl : r < 2 ^ k) : ((x ||| r : Nat) : Int) = (x : Int) + v := by
  rw [hx, or_plus k q r hl, ← hr]; simp
theorem word_eq (op a b c : Nat) (n : Int) (h : may ⟨op, a, b, c, n⟩ = true) : ((top op a b c ||| (n % 4294967296).toNat % (mk (fm op) + 1) : Nat) : Int) = wd ⟨op, a, b, c, n⟩ := by
  obtain ⟨ho, h⟩ := may_parts h
  have hf := fm_lt op
  unfold wd nn
  have ht : ((top op a b c : Nat) : Int) = (op : Int) * 67108864 + a * 4194304 + b * 262144 + c * 16384 := by unfold top; simp
  simp only at ho h ⊢
  rw [← ht]
  rcases form_cases hf with q | q | q | q | q | q | q <;> rw [q] at h ⊢ <;> simp only [us, mk] at h ⊢ <;> obtain ⟨h1, h2, h3, h4⟩ := h <;> clear ht
  · obtain rfl : n = 0 := by omega
    simp
  · obtain rfl : n = 0 := by omega
    simp
  · obtain ⟨e, l⟩ := low14 n h4.1 h4.2
    exact top_or 14 (op * 4096 + a * 256 + b * 16 + c) _ _ _ (by unfold top; omega) e l
  · obtain ⟨rfl, rfl⟩ : b = 0 ∧ c = 0 := by omega
    obtain ⟨e, l⟩ := low22 n h4.1 h4.2
    exact top_or 22 (op * 16 + a) _ _ _ (by unfold top; omega) e l
  · obtain ⟨rfl, rfl, rfl⟩ : a = 0 ∧ b = 0 ∧ c = 0 := by omega
    obtain ⟨e, l⟩ := low22 n h4.1 h4.2
    exact top_or 22 (op * 16) _ _ _ (by unfold top; omega) e l
  · obtain ⟨rfl, rfl, rfl⟩ : a = 0 ∧ b = 0 ∧ c = 0 := by omega
    obtain ⟨e, l⟩ := low8 n h4.1 h4.2
    exact top_or 22 (op * 16) _ _ _ (by unfold top; omega) e l
  · obtain rfl : n = 0 := by omega
    simp
theorem us_reg {f : Nat} (h : f < 7) : ((us f).la = 0 ∧ (us f).ha ≤ 15) ∧ ((us f).lb = 0 ∧ (us f).hb ≤ 15) ∧ (us f).lc = 0 ∧ (us f).hc ≤ 15 := by
  rcases form_cases h with rfl | rfl | rfl | rfl | rfl | rfl | rfl <;> simp [us]
end Go.Proofs.YtmfckkioccmblaaDoor.cd
