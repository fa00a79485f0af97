/-
  The plain mathematics of sets of numbers below 32 as bits of a number: which are in it, how many, the least one. No condition but the bounds that each theorem names.
-/
import Derived.Lib.TrailingZeros
import Derived.Lib.BitFns
namespace Go.Proofs.YtplebmafdfciaaaDoor.mm
open Go

/-- Which are in m, rising. -/
def ones (m : Nat) : List Nat := (List.range 32).filter (fun i => m.testBit i)
/-- How many of the first n are in m. -/
def pop (m : Nat) : Nat → Nat
  | 0 => 0
  | n + 1 => pop m n + (m.testBit n).toNat

theorem pop_len (m : Nat) : ∀ n, ((List.range n).filter (fun i => m.testBit i)).length = pop m n
  | 0 => rfl
  | n + 1 => by
    rw [List.range_succ, List.filter_append, List.length_append, pop_len m n]
    show _ = pop m n + (m.testBit n).toNat
    cases h : m.testBit n <;> simp [h]
theorem ones_len (m : Nat) : (ones m).length = pop m 32 := pop_len m 32

theorem pop_add (m a : Nat) : ∀ b, pop m (a + b) = pop m a + pop (m / 2 ^ a) b
  | 0 => rfl
  | b + 1 => by
    show pop m (a + b) + (m.testBit (a + b)).toNat = pop m a + (pop (m / 2 ^ a) b + ((m / 2 ^ a).testBit b).toNat)
    rw [pop_add m a b, Nat.testBit_div_two_pow, Nat.add_comm b a]; omega
theorem pop_mod (m a : Nat) : ∀ n, n ≤ a → pop (m % 2 ^ a) n = pop m n
  | 0, _ => rfl
  | n + 1, h => by
    show pop (m % 2 ^ a) n + _ = pop m n + _
    rw [pop_mod m a n (by omega), Nat.testBit_mod_two_pow]
    simp [show n < a by omega]
theorem pop_le (m : Nat) : ∀ n, pop m n ≤ n
  | 0 => Nat.le_refl _
  | n + 1 => by
    have := pop_le m n
    show pop m n + (m.testBit n).toNat ≤ n + 1
    cases m.testBit n <;> simp <;> omega
theorem pop8 : ∀ b : Fin 256, Lib.onesCount b.val = pop b.val 8 := by decide +kernel
theorem pop_bytes (m : Nat) : pop m 32 = Lib.onesCount (m / 16777216 % 256) + Lib.onesCount (m / 65536 % 256) + Lib.onesCount (m / 256 % 256) + Lib.onesCount (m % 256) := by
  have h : ∀ x, Lib.onesCount (x % 256) = pop x 8 := fun x => by
    rw [pop8 ⟨x % 256, Nat.mod_lt _ (by decide)⟩]; exact pop_mod x 8 8 (Nat.le_refl _)
  rw [h, h, h, h]
  have e1 := pop_add m 8 24
  have e2 := pop_add (m / 2 ^ 8) 8 16
  have e3 := pop_add (m / 2 ^ 8 / 2 ^ 8) 8 8
  rw [Nat.div_div_eq_div_mul] at e2 e3
  rw [Nat.div_div_eq_div_mul] at e3
  simp only [Nat.reduceAdd, Nat.reducePow, Nat.reduceMul] at e1 e2 e3
  omega

theorem range_at (k : Nat) (hk : k < 32) : List.range 32 = List.range k ++ k :: List.range' (k + 1) (31 - k) := by
  rw [List.range_eq_range', List.range_eq_range']
  have h1 : List.range' k (32 - k) = k :: List.range' (k + 1) (31 - k) := by
    rw [show 32 - k = (31 - k) + 1 by omega, List.range'_succ]
  rw [← h1]
  have := List.range'_append (s := 0) (m := k) (n := 32 - k) (step := 1)
  rw [show k + (32 - k) = 32 by omega] at this
  rw [← this]; simp

theorem filter_none {α : Type} {p : α → Bool} {l : List α} (h : ∀ x ∈ l, p x = false) : l.filter p = [] := by
  rw [List.filter_eq_nil_iff]; intro x hx; simp [h x hx]
theorem filter_same {α : Type} {p q : α → Bool} {l : List α} (h : ∀ x ∈ l, p x = q x) : l.filter p = l.filter q := List.filter_congr h

/-- The least one, and the others. -/
theorem ones_cons (m : Nat) (h0 : 0 < m) (h : m < 4294967296) : ones m = Lib.ctz 32 m :: ones (m &&& (m - 1)) ∧ Lib.ctz 32 m < 32 ∧ m &&& (m - 1) < 4294967296 := by
  have hz : Lib.ctz 32 m = Lib.ctzFrom 32 m := by unfold Lib.ctz; rw [if_neg (by omega)]
  obtain ⟨q, hq, hk⟩ := Lib.ctzFrom_spec 32 m h0 h
  rw [← hz] at hq hk
  obtain ⟨k, hkk⟩ : ∃ k, k = Lib.ctz 32 m := ⟨_, rfl⟩
  rw [← hkk] at hq hk ⊢
  have hp : 0 < 2 ^ k := Nat.two_pow_pos k
  have hm : m = 2 ^ k * (2 * q + 1) + 0 := by omega
  have hm1 : m - 1 = 2 ^ k * (2 * q) + (2 ^ k - 1) := by rw [hq, Nat.mul_add]; omega
  have t1 : ∀ i, m.testBit i = if i < k then false else (2 * q + 1).testBit (i - k) := fun i => by
    rw [hm, Nat.testBit_two_pow_mul_add _ (by omega)]; split <;> simp
  have t2 : ∀ i, (m - 1).testBit i = if i < k then true else (2 * q).testBit (i - k) := fun i => by
    rw [hm1, Nat.testBit_two_pow_mul_add _ (by omega)]
    by_cases hik : i < k
    · rw [if_pos hik, if_pos hik, Nat.testBit_two_pow_sub_one]; simp [hik]
    · rw [if_neg hik, if_neg hik]
  have t3 : ∀ i, (m &&& (m - 1)).testBit i = if i ≤ k then false else m.testBit i := fun i => by
    rw [Nat.testBit_and, t1, t2]
    rcases Nat.lt_trichotomy i k with hl | hl | hl
    · rw [if_pos hl, if_pos hl, if_pos (by omega)]; rfl
    · subst hl; rw [if_neg (by omega), if_neg (by omega), if_pos (by omega)]; simp
    · rw [if_neg (by omega), if_neg (by omega), if_neg (by omega)]
      obtain ⟨j, rfl⟩ : ∃ j, i = k + (j + 1) := ⟨i - k - 1, by omega⟩
      rw [show k + (j + 1) - k = j + 1 by omega, Nat.testBit_succ, Nat.testBit_succ, show (2 * q + 1) / 2 = q by omega, show (2 * q) / 2 = q by omega]; simp
  refine ⟨?_, hk, Nat.lt_of_le_of_lt Nat.and_le_left h⟩
  unfold ones
  rw [range_at k hk, List.filter_append, List.filter_append, List.filter_cons, List.filter_cons]
  rw [filter_none (p := fun i => m.testBit i) (l := List.range k) (fun x hx => by rw [List.mem_range] at hx; rw [t1, if_pos hx])]
  rw [filter_none (p := fun i => (m &&& (m - 1)).testBit i) (l := List.range k) (fun x hx => by rw [List.mem_range] at hx; rw [t3, if_pos (by omega)])]
  rw [if_pos (by rw [t1, if_neg (by omega)]; simp), if_neg (by rw [t3, if_pos (by omega)]; simp)]
  rw [filter_same (p := fun i => (m &&& (m - 1)).testBit i) (q := fun i => m.testBit i) (l := List.range' (k + 1) (31 - k)) (fun x hx => by
    have := List.mem_range'_1.1 hx; rw [t3, if_neg (by omega)])]
  rfl
theorem ones_zero : ones 0 = [] := by unfold ones; exact filter_none (fun x _ => by simp)

/-- m, and n. -/
theorem or_add (m n : Nat) (h : m.testBit n = false) : m ||| 2 ^ n = m + 2 ^ n := by
  have hp : 0 < 2 ^ n := Nat.two_pow_pos n
  have h1 : m / 2 ^ n % 2 = 0 := by
    rw [Nat.testBit_eq_decide_div_mod_eq] at h; simp at h; omega
  have hd := Nat.div_add_mod m (2 ^ n)
  have hlt := Nat.mod_lt m hp
  obtain ⟨a, ha⟩ : ∃ a, m / 2 ^ n = 2 * a := ⟨m / 2 ^ n / 2, by omega⟩
  rw [ha] at hd
  obtain ⟨b, hb⟩ : ∃ b, m % 2 ^ n = b := ⟨_, rfl⟩
  rw [hb] at hd hlt
  have hs : m + 2 ^ n = 2 ^ n * (2 * a + 1) + b := by rw [← hd, Nat.mul_add]; omega
  rw [hs, ← hd]
  apply Nat.eq_of_testBit_eq
  intro j
  rw [Nat.testBit_or, Nat.testBit_two_pow_mul_add _ hlt, Nat.testBit_two_pow_mul_add _ hlt, Nat.testBit_two_pow]
  rcases Nat.lt_trichotomy j n with hl | hl | hl
  · rw [if_pos hl, if_pos hl]; simp; omega
  · subst hl; rw [if_neg (by omega), if_neg (by omega)]; simp
  · rw [if_neg (by omega), if_neg (by omega)]
    obtain ⟨i, rfl⟩ : ∃ i, j = n + (i + 1) := ⟨j - n - 1, by omega⟩
    rw [show n + (i + 1) - n = i + 1 by omega, Nat.testBit_succ, Nat.testBit_succ, show (2 * a + 1) / 2 = a by omega, show (2 * a) / 2 = a by omega]; simp
theorem or_has (m n : Nat) (h : m.testBit n = true) : m ||| 2 ^ n = m := by
  apply Nat.eq_of_testBit_eq
  intro j
  rw [Nat.testBit_or, Nat.testBit_two_pow]
  by_cases e : n = j
  · subst e; simp [h]
  · simp [e]
/-- m, but not n. -/
theorem anot_bit (m n j : Nat) (hm : m < 4294967296) (hn : n < 32) : (m &&& (4294967295 - 2 ^ n)).testBit j = (m.testBit j && !decide (n = j)) := by
  have hp : 2 ^ n < 2 ^ 32 := Nat.pow_lt_pow_right (by decide) hn
  rw [Nat.testBit_and, show 4294967295 - 2 ^ n = 2 ^ 32 - (2 ^ n + 1) by omega, Nat.testBit_two_pow_sub_succ hp, Nat.testBit_two_pow]
  by_cases hj : j < 32
  · simp [hj]
  · have : m.testBit j = false := Nat.testBit_lt_two_pow (Nat.lt_of_lt_of_le hm (by
      show 2 ^ 32 ≤ 2 ^ j; exact Nat.pow_le_pow_right (by decide) (by omega)))
    simp [this]
theorem anot_sub (m n : Nat) (hm : m < 4294967296) (hn : n < 32) (h : m.testBit n = true) : m &&& (4294967295 - 2 ^ n) = m - 2 ^ n := by
  obtain ⟨r, hr⟩ : ∃ r, r = m &&& (4294967295 - 2 ^ n) := ⟨_, rfl⟩
  have hb : r.testBit n = false := by rw [hr, anot_bit m n n hm hn]; simp
  have ho := or_add r n hb
  have : r ||| 2 ^ n = m := by
    apply Nat.eq_of_testBit_eq
    intro j
    rw [Nat.testBit_or, Nat.testBit_two_pow, hr, anot_bit m n j hm hn]
    by_cases e : n = j
    · subst e; simp [h]
    · simp [e]
  rw [← hr]; omega
theorem anot_has (m n : Nat) (hm : m < 4294967296) (hn : n < 32) (h : m.testBit n = false) : m &&& (4294967295 - 2 ^ n) = m := by
  apply Nat.eq_of_testBit_eq
  intro j
  rw [anot_bit m n j hm hn]
  by_cases e : n = j
  · subst e; simp [h]
  · simp [e]
theorem and_bit (m n : Nat) : (m &&& 2 ^ n) = if m.testBit n then 2 ^ n else 0 := by
  apply Nat.eq_of_testBit_eq
  intro j
  rw [Nat.testBit_and, Nat.testBit_two_pow]
  by_cases e : n = j
  · subst e; cases h : m.testBit n <;> simp
  · cases h : m.testBit n <;> simp [e]
end Go.Proofs.YtplebmafdfciaaaDoor.mm
