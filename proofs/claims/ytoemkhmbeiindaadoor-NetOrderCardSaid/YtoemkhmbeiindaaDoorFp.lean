/-
  Plain facts on double-precision numbers that stand for whole numbers: comparing, adding, subtracting, cutting and turning them back into integers are exact. No condition beyond the bounds that each theorem names. (Nothing of the program is named here.)
-/
import Derived.Laws.FloatArith
import Derived.Laws.ComplexArith
import Derived.Laws.BitsAllLaws
namespace Go.Proofs.YtoemkhmbeiindaaDoor.Fp
open Ieee

/-- the double that stands for n -/
abbrev F (n : Int) : Nat := floatOfInt .f64 n

theorem dbl : FloatKind.f64.format = Ieee.double := rfl

theorem log2_bd {m : Nat} (h : m ≠ 0) : 2 ^ m.log2 ≤ m ∧ m < 2 ^ (m.log2 + 1) :=
  ⟨Nat.log2_self_le h, Nat.lt_log2_self⟩

theorem cut_zero (way : Toward) (s : Bool) (n : Nat) : way.cut s n 0 = n := by
  unfold Toward.cut
  cases way <;> simp [Nat.mod_one]

/-- the last place that is kept of a number of at most 53 digits -/
theorem nearest_small (s : Bool) (m : Nat) (h0 : m ≠ 0) (h : m < 2 ^ 53) :
    double.nearest s m 0 = double.word s ((m.log2 + 1022) * 2 ^ 52 + m * 2 ^ (52 - m.log2)) := by
  have hl := log2_bd h0
  have hL : m.log2 ≤ 52 := by
    have : 2 ^ m.log2 < 2 ^ 53 := Nat.lt_of_le_of_lt hl.1 h
    have := (Nat.pow_lt_pow_iff_right (by omega : 1 < 2)).1 this
    omega
  have hlp : double.leastPlace = -1074 := rfl
  have hfb : double.fractionBits = 52 := rfl
  have hbn : double.binade = 2 ^ 52 := rfl
  have hinf : double.infRung = 2047 * 2 ^ 52 := rfl
  unfold Format.nearest
  rw [if_neg h0]
  dsimp only
  rw [hlp, hfb, hbn, hinf]
  have hlast : max ((0 : Int) + (m.log2 : Int) - ((52 : Nat) : Int)) (-1074) = (m.log2 : Int) - 52 := by omega
  rw [hlast]
  have e1 : (0 - ((m.log2 : Int) - 52)).toNat = 52 - m.log2 := by omega
  have e2 : ((m.log2 : Int) - 52 - 0).toNat = 0 := by omega
  have e3 : ((m.log2 : Int) - 52 - (-1074)).toNat = m.log2 + 1022 := by omega
  rw [e1, e2, e3, cut_zero, Nat.shiftLeft_eq]
  congr 1
  refine Nat.min_eq_left ?_
  have hk : m * 2 ^ (52 - m.log2) ≤ 2 ^ 53 := by
    have h1 : m * 2 ^ (52 - m.log2) ≤ 2 ^ (m.log2 + 1) * 2 ^ (52 - m.log2) := Nat.mul_le_mul_right _ (Nat.le_of_lt hl.2)
    rw [← Nat.pow_add, show m.log2 + 1 + (52 - m.log2) = 53 by omega] at h1
    exact h1
  omega

theorem kept_bd (m : Nat) (h0 : m ≠ 0) (h : m < 2 ^ 53) : m.log2 ≤ 52 ∧ 2 ^ 52 ≤ m * 2 ^ (52 - m.log2) ∧ m * 2 ^ (52 - m.log2) < 2 ^ 53 := by
  have hl := log2_bd h0
  have hL : m.log2 ≤ 52 := by
    have : 2 ^ m.log2 < 2 ^ 53 := Nat.lt_of_le_of_lt hl.1 h
    have := (Nat.pow_lt_pow_iff_right (by omega : 1 < 2)).1 this
    omega
  refine ⟨hL, ?_, ?_⟩
  · have h1 : 2 ^ m.log2 * 2 ^ (52 - m.log2) ≤ m * 2 ^ (52 - m.log2) := Nat.mul_le_mul_right _ hl.1
    rw [← Nat.pow_add, show m.log2 + (52 - m.log2) = 52 by omega] at h1
    exact h1
  · have h1 : m * 2 ^ (52 - m.log2) < 2 ^ (m.log2 + 1) * 2 ^ (52 - m.log2) := Nat.mul_lt_mul_of_pos_right hl.2 (Nat.two_pow_pos _)
    rw [← Nat.pow_add, show m.log2 + 1 + (52 - m.log2) = 53 by omega] at h1
    exact h1

theorem read_word (s : Bool) (e k : Nat) (he : e ≤ 2044) (h1 : 2 ^ 52 ≤ k) (h2 : k < 2 ^ 53) :
    double.read (double.word s (e * 2 ^ 52 + k)) = .number s k (-1074 + e) := by
  have hlp : double.leastPlace = -1074 := rfl
  have hbn : double.binade = 4503599627370496 := rfl
  have hinf : double.infRung = 9218868437227405312 := rfl
  have hsw : double.signWeight = 9223372036854775808 := rfl
  have p52 : (2 : Nat) ^ 52 = 4503599627370496 := rfl
  have p53 : (2 : Nat) ^ 53 = 9007199254740992 := rfl
  rw [p52] at h1; rw [p53] at h2
  unfold Format.read Format.word
  rw [hlp, hbn, hinf, hsw, p52]
  have hr : (if s = true then 9223372036854775808 + (e * 4503599627370496 + k) else e * 4503599627370496 + k) / 9223372036854775808 % 2 = if s = true then 1 else 0 := by
    cases s <;> simp <;> omega
  have hm : (if s = true then 9223372036854775808 + (e * 4503599627370496 + k) else e * 4503599627370496 + k) % 9223372036854775808 = e * 4503599627370496 + k := by
    cases s <;> simp <;> omega
  dsimp only
  rw [hr, hm, if_neg (by omega), if_pos (by omega)]
  have hq : (e * 4503599627370496 + k) / 4503599627370496 - 1 = e := by omega
  have hrem : 4503599627370496 + (e * 4503599627370496 + k) % 4503599627370496 = k := by omega
  rw [hq, hrem]
  cases s <;> rfl

/-- What the double of a whole number of at most 53 digits stands for. -/
theorem read_F (n : Int) (h0 : n ≠ 0) (h : n.natAbs < 2 ^ 53) :
    double.read (F n) = .number (decide (n < 0)) (n.natAbs * 2 ^ (52 - n.natAbs.log2)) (-((52 - n.natAbs.log2 : Nat) : Int)) := by
  have hm : n.natAbs ≠ 0 := by omega
  obtain ⟨hL, hk1, hk2⟩ := kept_bd n.natAbs hm h
  have : F n = double.word (decide (n < 0)) ((n.natAbs.log2 + 1022) * 2 ^ 52 + n.natAbs * 2 ^ (52 - n.natAbs.log2)) := nearest_small _ _ hm h
  rw [this, read_word _ _ _ (by omega) hk1 hk2]
  rw [show (-1074 + ((n.natAbs.log2 + 1022 : Nat) : Int)) = -((52 - n.natAbs.log2 : Nat) : Int) by omega]

theorem F_zero : F 0 = 0 := by decide +kernel
theorem read_zero : double.read 0 = .number false 0 (-1074) := by decide +kernel

theorem zero_form (k : Nat) : double.read 0 = .number (decide ((0 : Int) < 0)) ((0 : Int).natAbs * 2 ^ k) (-((1074 : Nat) : Int)) := by
  rw [read_zero, Int.natAbs_zero, Nat.zero_mul]; rfl

/-- The one form: up is how far the digits were moved. -/
theorem read_F' (n : Int) (h : n.natAbs < 2 ^ 53) : ∃ up : Nat, up ≤ 1074 ∧ double.read (F n) = .number (decide (n < 0)) (n.natAbs * 2 ^ up) (-(up : Int)) := by
  by_cases h0 : n = 0
  · subst h0; rw [F_zero]; exact ⟨1074, by omega, zero_form 1074⟩
  · exact ⟨_, by omega, read_F n h0 h⟩

theorem signed_up (n : Int) (up more : Nat) : signed (decide (n < 0)) (n.natAbs * 2 ^ up) more = n * (2 ^ (up + more) : Nat) := by
  have e : ((n.natAbs * 2 ^ up) <<< more : Nat) = n.natAbs * 2 ^ (up + more) := by rw [Nat.shiftLeft_eq, Nat.mul_assoc, ← Nat.pow_add]
  unfold signed
  rw [e]
  by_cases h : n < 0
  · rw [if_pos (by simpa using h), Int.natCast_mul, show ((n.natAbs : Nat) : Int) = -n by omega, Int.neg_mul, Int.neg_neg]
  · rw [if_neg (by simpa using h), Int.natCast_mul, show ((n.natAbs : Nat) : Int) = n by omega]

theorem compare_scale (a b : Int) (k : Nat) : compare (a * (2 ^ k : Nat)) (b * (2 ^ k : Nat)) = compare a b := by
  have hp : (0 : Int) < ((2 ^ k : Nat) : Int) := by have := Nat.two_pow_pos k; omega
  have l : a * (2 ^ k : Nat) < b * (2 ^ k : Nat) ↔ a < b := Int.mul_lt_mul_right hp
  have e : a * (2 ^ k : Nat) = b * (2 ^ k : Nat) ↔ a = b := Int.mul_eq_mul_right_iff (by omega)
  simp only [compare, compareOfLessAndEq, l, e]

theorem order_F (a b : Int) (ha : a.natAbs < 2 ^ 53) (hb : b.natAbs < 2 ^ 53) : double.order (F a) (F b) = some (compare a b) := by
  obtain ⟨u, hu, ra⟩ := read_F' a ha
  obtain ⟨v, hv, rb⟩ := read_F' b hb
  unfold Format.order
  rw [ra, rb]
  simp only [Datum.order]
  rw [signed_up, signed_up]
  have e1 : u + (-(u : Int) - min (-(u : Int)) (-(v : Int))).toNat = max u v := by omega
  have e2 : v + (-(v : Int) - min (-(u : Int)) (-(v : Int))).toNat = max u v := by omega
  rw [e1, e2, compare_scale]

/-- scaling: the nearest word of n * 2^up * 2^-up -/
theorem nearest_scale (s : Bool) (m up : Nat) (hu : up ≤ 1074) (h : m < 2 ^ 53) : double.nearest s (m * 2 ^ up) (-(up : Int)) = double.nearest s m 0 := by
  by_cases h0 : m = 0
  · subst h0; simp [Format.nearest]
  have hl := log2_bd h0
  obtain ⟨hL, hk1, hk2⟩ := kept_bd m h0 h
  have hlog : (m * 2 ^ up).log2 = m.log2 + up := by
    have hne : m * 2 ^ up ≠ 0 := Nat.mul_ne_zero h0 (Nat.ne_of_gt (Nat.two_pow_pos _))
    refine (Nat.log2_eq_iff hne).2 ⟨?_, ?_⟩
    · rw [Nat.pow_add]; exact Nat.mul_le_mul_right _ hl.1
    · rw [show m.log2 + up + 1 = (m.log2 + 1) + up by omega, Nat.pow_add]; exact Nat.mul_lt_mul_of_pos_right hl.2 (Nat.two_pow_pos _)
  have hne : m * 2 ^ up ≠ 0 := Nat.mul_ne_zero h0 (Nat.ne_of_gt (Nat.two_pow_pos _))
  have hlp : double.leastPlace = -1074 := rfl
  have hfb : double.fractionBits = 52 := rfl
  unfold Format.nearest
  rw [if_neg h0, if_neg hne]
  dsimp only
  rw [hlog, hlp, hfb]
  have l1 : max (-(up : Int) + ((m.log2 + up : Nat) : Int) - ((52 : Nat) : Int)) (-1074) = (m.log2 : Int) - 52 := by omega
  have l2 : max ((0 : Int) + (m.log2 : Int) - ((52 : Nat) : Int)) (-1074) = (m.log2 : Int) - 52 := by omega
  rw [l1, l2]
  congr 2
  have e2 : ((m.log2 : Int) - 52 - 0).toNat = 0 := by omega
  rw [e2, cut_zero, Nat.shiftLeft_eq]
  congr 1
  by_cases hc : up ≤ 52 - m.log2
  · have e1 : (-(up : Int) - ((m.log2 : Int) - 52)).toNat = 52 - m.log2 - up := by omega
    have e3 : ((m.log2 : Int) - 52 - -(up : Int)).toNat = 0 := by omega
    have e4 : (0 - ((m.log2 : Int) - 52)).toNat = 52 - m.log2 := by omega
    rw [e1, e3, e4, cut_zero, Nat.shiftLeft_eq, Nat.mul_assoc, ← Nat.pow_add, show up + (52 - m.log2 - up) = 52 - m.log2 by omega]
  · have e1 : (-(up : Int) - ((m.log2 : Int) - 52)).toNat = 0 := by omega
    have e3 : ((m.log2 : Int) - 52 - -(up : Int)).toNat = up - (52 - m.log2) := by omega
    have e4 : (0 - ((m.log2 : Int) - 52)).toNat = 52 - m.log2 := by omega
    rw [e1, e3, e4, Nat.pow_zero, Nat.mul_one]
    unfold Toward.cut
    have hmin : min (up - (52 - m.log2)) ((m * 2 ^ up).log2 + 2) = up - (52 - m.log2) := by rw [hlog]; omega
    dsimp only
    rw [hmin, Nat.shiftLeft_eq, Nat.one_mul]
    have hsplit : m * 2 ^ up = (m * 2 ^ (52 - m.log2)) * 2 ^ (up - (52 - m.log2)) := by
      rw [Nat.mul_assoc, ← Nat.pow_add]; congr 2; omega
    have hd : m * 2 ^ up / 2 ^ (up - (52 - m.log2)) = m * 2 ^ (52 - m.log2) := by
      rw [hsplit]; exact Nat.mul_div_cancel _ (Nat.two_pow_pos _)
    have hr : m * 2 ^ up % 2 ^ (up - (52 - m.log2)) = 0 := by
      rw [hsplit]; exact Nat.mul_mod_left _ _
    rw [hd, hr]
    have hg : (2 ^ (up - (52 - m.log2)) == 0) = false := beq_eq_false_iff_ne.2 (Nat.ne_of_gt (Nat.two_pow_pos _))
    rw [Nat.shiftLeft_eq]
    simp [hg]

theorem write_F (c : Int) (s : Bool) (up : Nat) (hu : up ≤ 1074) (hc : c.natAbs < 2 ^ 53) (hs : c ≠ 0 → s = decide (c < 0)) (hz : c = 0 → s = false) :
    double.write (.number s (c * (2 ^ up : Nat)).natAbs (-(up : Int))) = F c := by
  have e : (c * (2 ^ up : Nat)).natAbs = c.natAbs * 2 ^ up := by rw [Int.natAbs_mul]; simp
  have hs' : s = decide (c < 0) := by
    by_cases h0 : c = 0
    · rw [hz h0, h0]; rfl
    · exact hs h0
  show double.nearest _ _ _ = _
  rw [e, nearest_scale _ _ _ hu hc, hs']
  rfl

theorem scale_lt (c : Int) (k : Nat) : c * (2 ^ k : Nat) < 0 ↔ c < 0 := by
  have hp : (0 : Int) < ((2 ^ k : Nat) : Int) := by have := Nat.two_pow_pos k; omega
  have := Int.mul_lt_mul_right (a := (2 ^ k : Nat)) (b := c) (c := 0) hp
  simpa using this

theorem scale_zero (c : Int) (k : Nat) : c * (2 ^ k : Nat) = 0 ↔ c = 0 := by
  have hp : ((2 ^ k : Nat) : Int) ≠ 0 := by have := Nat.two_pow_pos k; omega
  constructor
  · intro h; rcases Int.mul_eq_zero.1 h with h | h
    · exact h
    · exact absurd h hp
  · intro h; simp [h]

theorem sum_F (a b : Int) (u v : Nat) (s : Bool) (hu : u ≤ 1074) (hv : v ≤ 1074) (hc : (a + b).natAbs < 2 ^ 53) (hsb : b ≠ 0 → s = decide (b < 0)) (hs0 : a = 0 → b = 0 → s = false) (hs1 : b = 0 → ¬ a < 0 → s = false ∨ a ≠ 0) :
    (Datum.sum (.number (decide (a < 0)) (a.natAbs * 2 ^ u) (-(u : Int))) (.number s (b.natAbs * 2 ^ v) (-(v : Int)))).map double.write = some (F (a + b)) := by
  have sb : ∀ more, signed s (b.natAbs * 2 ^ v) more = b * (2 ^ (v + more) : Nat) := by
    intro more
    by_cases h0 : b = 0
    · subst h0; cases s <;> simp [signed]
    · rw [hsb h0, signed_up]
  simp only [Datum.sum]
  rw [signed_up, sb]
  have e1 : u + (-(u : Int) - min (-(u : Int)) (-(v : Int))).toNat = max u v := by omega
  have e2 : v + (-(v : Int) - min (-(u : Int)) (-(v : Int))).toNat = max u v := by omega
  have e3 : min (-(u : Int)) (-(v : Int)) = -((max u v : Nat) : Int) := by omega
  rw [e1, e2, e3, ← Int.add_mul]
  simp only [Option.map_some]
  congr 1
  refine write_F (a + b) _ _ (by omega) hc ?_ ?_
  · intro hne
    rw [if_neg (by rw [scale_zero]; exact hne)]
    simp only [scale_lt]
  · intro hz
    rw [if_pos (by rw [scale_zero]; exact hz)]
    by_cases h0 : b = 0
    · have ha : a = 0 := by omega
      rw [hs0 ha h0]; simp
    · rw [hsb h0]
      by_cases h1 : a < 0
      · simp; omega
      · simp [h1]

theorem add_F (a b : Int) (ha : a.natAbs < 2 ^ 52) (hb : b.natAbs < 2 ^ 52) : double.add (F a) (F b) = some (F (a + b)) := by
  obtain ⟨u, hu, ra⟩ := read_F' a (by omega)
  obtain ⟨v, hv, rb⟩ := read_F' b (by omega)
  unfold Format.add
  rw [ra, rb]
  exact sum_F a b u v _ hu hv (by omega) (fun _ => rfl) (fun _ h => by subst h; rfl) (fun h _ => by subst h; left; rfl)

theorem sub_F (a b : Int) (ha : a.natAbs < 2 ^ 52) (hb : b.natAbs < 2 ^ 52) : double.sub (F a) (F b) = some (F (a - b)) := by
  obtain ⟨u, hu, ra⟩ := read_F' a (by omega)
  obtain ⟨v, hv, rb⟩ := read_F' b (by omega)
  unfold Format.sub
  rw [ra, rb]
  simp only [Datum.opposite]
  by_cases h0 : b = 0
  · subst h0
    -- subtracting nought
    have sb : ∀ s more, signed s ((0 : Int).natAbs * 2 ^ v) more = 0 := by intro s more; cases s <;> simp [signed]
    simp only [Datum.sum]
    rw [signed_up, sb]
    have e1 : u + (-(u : Int) - min (-(u : Int)) (-(v : Int))).toNat = max u v := by omega
    have e3 : min (-(u : Int)) (-(v : Int)) = -((max u v : Nat) : Int) := by omega
    rw [e1, e3, Int.add_zero]
    simp only [Option.map_some, Int.sub_zero]
    congr 1
    refine write_F a _ _ (by omega) (by omega) ?_ ?_
    · intro hne
      rw [if_neg (by rw [scale_zero]; exact hne)]
      simp only [scale_lt]
    · intro hz; subst hz; simp
  · have hnb : (-b).natAbs = b.natAbs := by omega
    have key := sum_F a (-b) u v (!(decide (b < 0))) hu hv (by omega) (fun _ => by
      by_cases hb0 : b < 0
      · rw [decide_eq_true hb0, decide_eq_false (by omega)]; rfl
      · rw [decide_eq_false hb0, decide_eq_true (by omega)]; rfl) (fun _ h => absurd h (by omega)) (fun h _ => absurd h (by omega))
    rw [hnb] at key
    rw [show a - b = a + -b by omega]
    exact key

/-- cutting a scaled whole number gives it back -/
theorem cut_scaled (m up : Nat) (s : Bool) (h : m < 2 ^ 53) (hu : m ≠ 0 → up ≤ 53) : Toward.zero.cut s (m * 2 ^ up) up = m := by
  by_cases h0 : m = 0
  · subst h0; simp [Toward.cut]
  unfold Toward.cut
  have hne : m * 2 ^ up ≠ 0 := Nat.mul_ne_zero h0 (Nat.ne_of_gt (Nat.two_pow_pos _))
  have hlog : (m * 2 ^ up).log2 = m.log2 + up := by
    have hl := log2_bd h0
    refine (Nat.log2_eq_iff hne).2 ⟨?_, ?_⟩
    · rw [Nat.pow_add]; exact Nat.mul_le_mul_right _ hl.1
    · rw [show m.log2 + up + 1 = (m.log2 + 1) + up by omega, Nat.pow_add]; exact Nat.mul_lt_mul_of_pos_right hl.2 (Nat.two_pow_pos _)
  have hmin : min up ((m * 2 ^ up).log2 + 2) = up := by rw [hlog]; omega
  dsimp only
  rw [hmin, Nat.shiftLeft_eq, Nat.one_mul, Nat.mul_div_cancel _ (Nat.two_pow_pos _)]
  simp

theorem read_F'' (n : Int) (h : n.natAbs < 2 ^ 53) : ∃ up : Nat, up ≤ 1074 ∧ (n.natAbs ≠ 0 → up ≤ 53) ∧ double.read (F n) = .number (decide (n < 0)) (n.natAbs * 2 ^ up) (-(up : Int)) := by
  by_cases h0 : n = 0
  · subst h0; rw [F_zero]; exact ⟨1074, by omega, fun h => absurd rfl h, zero_form 1074⟩
  · exact ⟨_, by omega, by omega, read_F n h0 h⟩

theorem integral_F (n : Int) (h : n.natAbs < 2 ^ 53) : (double.read (F n)).integral .zero = .number (decide (n < 0)) n.natAbs 0 := by
  obtain ⟨u, hu, hu', r⟩ := read_F'' n h
  rw [r]
  simp only [Datum.integral]
  have e1 : (-(u : Int)).toNat = 0 := by omega
  have e2 : (-(-(u : Int))).toNat = u := by omega
  rw [e1, e2, Nat.shiftLeft_zero, cut_scaled _ _ _ h hu']

theorem trunc_F (n : Int) (h : n.natAbs < 2 ^ 53) : FloatKind.f64.encode ((FloatKind.f64.decode (F n)).integral .zero) = F n := by
  show double.write ((double.read (F n)).integral .zero) = F n
  rw [integral_F n h]
  rfl

theorem toInt_F (n : Int) (h : n.natAbs < 2 ^ 53) : floatToIntVal .f64 (F n) .i64 = some n := by
  have e : (FloatKind.f64.decode (F n)).toInt .zero = some n := by
    show (double.read (F n)).toInt .zero = some n
    unfold Datum.toInt
    rw [integral_F n h]
    simp only [signed, Nat.shiftLeft_zero]
    by_cases hn : n < 0
    · simp [hn]; omega
    · simp [hn]; omega
  unfold floatToIntVal
  rw [e]
  have hmin : IntKind.i64.min = -9223372036854775808 := rfl
  have hmax : IntKind.i64.max = 9223372036854775807 := rfl
  simp only [hmin, hmax]
  rw [if_pos (by omega)]

/-- A whole number of more than 53 digits: too great. -/
theorem read_big (n : Int) (h : 2 ^ 53 ≤ n.natAbs) (h' : n.natAbs < 2 ^ 64) : ∃ m p : Nat, double.read (F n) = .number (decide (n < 0)) m (p : Int) ∧ 2 ^ 52 ≤ m := by
  have h0 : n.natAbs ≠ 0 := by omega
  have hl := log2_bd h0
  have hL1 : 53 ≤ n.natAbs.log2 := by
    have : 2 ^ 53 < 2 ^ (n.natAbs.log2 + 1) := Nat.lt_of_le_of_lt h hl.2
    have := (Nat.pow_lt_pow_iff_right (by omega : 1 < 2)).1 this
    omega
  have hL2 : n.natAbs.log2 ≤ 63 := by
    have : 2 ^ n.natAbs.log2 < 2 ^ 64 := Nat.lt_of_le_of_lt hl.1 h'
    have := (Nat.pow_lt_pow_iff_right (by omega : 1 < 2)).1 this
    omega
  generalize hm : n.natAbs = m at *
  have hlp : double.leastPlace = -1074 := rfl
  have hfb : double.fractionBits = 52 := rfl
  have hbn : double.binade = 2 ^ 52 := rfl
  have hinf : double.infRung = 2047 * 2 ^ 52 := rfl
  obtain ⟨kept, hk1, hk2, hF⟩ : ∃ kept, 2 ^ 52 ≤ kept ∧ kept ≤ 2 ^ 53 ∧ F n = double.word (decide (n < 0)) ((m.log2 + 1022) * 2 ^ 52 + kept) := by
    refine ⟨Toward.even.cut (decide (n < 0)) m (m.log2 - 52), ?_, ?_, ?_⟩
    · unfold Toward.cut
      dsimp only
      have hmin : min (m.log2 - 52) (m.log2 + 2) = m.log2 - 52 := by omega
      rw [hmin, Nat.shiftLeft_eq, Nat.one_mul]
      have : 2 ^ 52 ≤ m / 2 ^ (m.log2 - 52) := by
        rw [Nat.le_div_iff_mul_le (Nat.two_pow_pos _), ← Nat.pow_add, show 52 + (m.log2 - 52) = m.log2 by omega]
        exact hl.1
      omega
    · unfold Toward.cut
      dsimp only
      have hmin : min (m.log2 - 52) (m.log2 + 2) = m.log2 - 52 := by omega
      rw [hmin, Nat.shiftLeft_eq, Nat.one_mul]
      have h1 : m / 2 ^ (m.log2 - 52) < 2 ^ 53 := by
        rw [Nat.div_lt_iff_lt_mul (Nat.two_pow_pos _), ← Nat.pow_add, show 53 + (m.log2 - 52) = m.log2 + 1 by omega]
        exact hl.2
      have h2 : ∀ b : Bool, b.toNat ≤ 1 := by intro b; cases b <;> simp
      have h3 := h2 (decide (2 ^ (m.log2 - 52) < 2 * (m % 2 ^ (m.log2 - 52))) || 2 ^ (m.log2 - 52) == 2 * (m % 2 ^ (m.log2 - 52)) && m / 2 ^ (m.log2 - 52) % 2 == 1)
      omega
    · show double.nearest (decide (n < 0)) n.natAbs 0 = _
      rw [hm]
      unfold Format.nearest
      rw [if_neg h0]
      dsimp only
      rw [hlp, hfb, hbn, hinf]
      have hlast : max ((0 : Int) + (m.log2 : Int) - ((52 : Nat) : Int)) (-1074) = (m.log2 : Int) - 52 := by omega
      rw [hlast]
      have e1 : (0 - ((m.log2 : Int) - 52)).toNat = 0 := by omega
      have e2 : ((m.log2 : Int) - 52 - 0).toNat = m.log2 - 52 := by omega
      have e3 : ((m.log2 : Int) - 52 - (-1074)).toNat = m.log2 + 1022 := by omega
      rw [e1, e2, e3, Nat.shiftLeft_zero]
      congr 1
      refine Nat.min_eq_left ?_
      have : Toward.even.cut (decide (n < 0)) m (m.log2 - 52) ≤ 2 ^ 53 := by
        unfold Toward.cut
        dsimp only
        have hmin : min (m.log2 - 52) (m.log2 + 2) = m.log2 - 52 := by omega
        rw [hmin, Nat.shiftLeft_eq, Nat.one_mul]
        have h1 : m / 2 ^ (m.log2 - 52) < 2 ^ 53 := by
          rw [Nat.div_lt_iff_lt_mul (Nat.two_pow_pos _), ← Nat.pow_add, show 53 + (m.log2 - 52) = m.log2 + 1 by omega]
          exact hl.2
        have h2 : ∀ b : Bool, b.toNat ≤ 1 := by intro b; cases b <;> simp
        have h3 := h2 (decide (2 ^ (m.log2 - 52) < 2 * (m % 2 ^ (m.log2 - 52))) || 2 ^ (m.log2 - 52) == 2 * (m % 2 ^ (m.log2 - 52)) && m / 2 ^ (m.log2 - 52) % 2 == 1)
        omega
      omega
  rw [hF]
  by_cases hc : kept < 2 ^ 53
  · rw [read_word _ _ _ (by omega) hk1 hc]
    exact ⟨kept, m.log2 - 52, by rw [show (-1074 + ((m.log2 + 1022 : Nat) : Int)) = ((m.log2 - 52 : Nat) : Int) by omega], hk1⟩
  · have hk : kept = 2 ^ 53 := by omega
    have : (m.log2 + 1022) * 2 ^ 52 + kept = (m.log2 + 1023) * 2 ^ 52 + 2 ^ 52 := by omega
    rw [this, read_word _ _ _ (by omega) (by omega) (by omega)]
    exact ⟨2 ^ 52, m.log2 - 51, by rw [show (-1074 + ((m.log2 + 1023 : Nat) : Int)) = ((m.log2 - 51 : Nat) : Int) by omega], by omega⟩

theorem order_big (a b : Int) (ha : 2 ^ 53 ≤ a.natAbs) (ha' : a.natAbs < 2 ^ 64) (hb : b.natAbs < 2 ^ 52) : double.order (F a) (F b) = some (compare a b) := by
  obtain ⟨m, p, ra, hm⟩ := read_big a ha ha'
  obtain ⟨v, hv, rb⟩ := read_F' b (by omega)
  unfold Format.order
  rw [ra, rb]
  simp only [Datum.order]
  rw [signed_up]
  have e1 : ((p : Int) - min (p : Int) (-(v : Int))).toNat = p + v := by omega
  have e2 : v + (-(v : Int) - min (p : Int) (-(v : Int))).toNat = v := by omega
  rw [e1, e2]
  have hbig : 2 ^ 52 * 2 ^ v ≤ m <<< (p + v) := by
    rw [Nat.shiftLeft_eq, Nat.pow_add, ← Nat.mul_assoc]
    refine Nat.mul_le_mul_right _ (Nat.le_trans hm ?_)
    exact Nat.le_mul_of_pos_right _ (Nat.two_pow_pos _)
  have hbb : b.natAbs * 2 ^ v < 2 ^ 52 * 2 ^ v := Nat.mul_lt_mul_of_pos_right hb (Nat.two_pow_pos _)
  have habs : (b * (2 ^ v : Nat)).natAbs = b.natAbs * 2 ^ v := by rw [Int.natAbs_mul]; simp
  generalize hX : m <<< (p + v) = X at *
  generalize b * (2 ^ v : Nat) = Y at *
  generalize 2 ^ 52 * 2 ^ v = Z at *
  congr 1
  by_cases hn : a < 0
  · have h1 : compare a b = .lt := by simp only [compare, compareOfLessAndEq]; rw [if_pos (by omega)]
    rw [h1]
    rw [decide_eq_true hn]
    simp only [signed, if_true, compare, compareOfLessAndEq]
    rw [hX, if_pos (by omega)]
  · have h1 : compare a b = .gt := by simp only [compare, compareOfLessAndEq]; rw [if_neg (by omega), if_neg (by omega)]
    rw [h1]
    rw [decide_eq_false hn]
    simp only [signed, Bool.false_eq_true, if_false, compare, compareOfLessAndEq]
    rw [hX, if_neg (by omega), if_neg (by omega)]

/-- any int64 against a small whole number -/
theorem order_any (a b : Int) (ha' : a.natAbs < 2 ^ 64) (hb : b.natAbs < 2 ^ 52) : double.order (F a) (F b) = some (compare a b) := by
  by_cases h : a.natAbs < 2 ^ 53
  · exact order_F a b h (by omega)
  · exact order_big a b (by omega) ha' hb

/-- The sign of a rounded number is a bit above its rung, and the rung is the magnitude's alone. -/
theorem nearest_word (m : Nat) : ∃ r, r < 2 ^ 63 ∧ ∀ s, double.nearest s m 0 = double.word s r := by
  by_cases h0 : m = 0
  · exact ⟨0, Nat.two_pow_pos _, fun s => by subst h0; simp [Format.nearest]⟩
  · have hinf : double.infRung < 2 ^ 63 := by decide +kernel
    have hw : ∀ r, double.word false r = r := fun r => by simp [Format.word]
    refine ⟨double.nearest false m 0, ?_, fun s => ?_⟩
    · unfold Format.nearest
      rw [if_neg h0]
      dsimp only
      rw [hw]
      exact Nat.lt_of_le_of_lt (Nat.min_le_right _ _) hinf
    · have hc : ∀ n d, Toward.even.cut s n d = Toward.even.cut false n d := fun n d => by unfold Toward.cut; simp only
      unfold Format.nearest
      rw [if_neg h0, if_neg h0]
      dsimp only
      rw [hw, hc]

theorem F_word (n : Int) : ∃ r, r < 2 ^ 63 ∧ F n = double.word (decide (n < 0)) r ∧ F n.natAbs = double.word false r ∧ F (-(n.natAbs : Int)) = double.word (decide (n ≠ 0)) r := by
  obtain ⟨r, hr, h⟩ := nearest_word n.natAbs
  refine ⟨r, hr, h _, ?_, ?_⟩
  · show double.nearest (decide ((n.natAbs : Int) < 0)) ((n.natAbs : Int)).natAbs 0 = _
    rw [decide_eq_false (by omega), Int.natAbs_natCast, h]
  · show double.nearest (decide (-(n.natAbs : Int) < 0)) (-(n.natAbs : Int)).natAbs 0 = _
    rw [Int.natAbs_neg, Int.natAbs_natCast, h]
    congr 1
    by_cases hn : n = 0
    · subst hn; rfl
    · rw [decide_eq_true hn, decide_eq_true (by omega)]

theorem word_eq (s : Bool) (r : Nat) : double.word s r = if s then 9223372036854775808 + r else r := by
  have : double.signWeight = 9223372036854775808 := by decide +kernel
  unfold Format.word
  rw [this]

theorem F_lt (n : Int) : F n < 18446744073709551616 := by
  obtain ⟨r, hr, h, _, _⟩ := F_word n
  have p63 : (2 : Nat) ^ 63 = 9223372036854775808 := rfl
  rw [p63] at hr
  rw [h, word_eq]
  split <;> omega

/-- math.Abs on the word -/
theorem abs_bits (n : Int) : (bits .andNot .u64 ((F n : Nat) : Int) 9223372036854775808).toNat = F n.natAbs := by
  have hF := F_lt n
  rw [show (9223372036854775808 : Int) = ((9223372036854775808 : Nat) : Int) from rfl, u64_andNot_nat _ _ hF (by omega), Int.toNat_natCast]
  rw [show 18446744073709551615 - 9223372036854775808 = 2 ^ 63 - 1 from rfl, Nat.and_two_pow_sub_one_eq_mod]
  obtain ⟨r, hr, h1, h2, _⟩ := F_word n
  rw [h1, h2, word_eq, word_eq]
  have p63 : (2 : Nat) ^ 63 = 9223372036854775808 := rfl
  rw [p63] at hr ⊢
  by_cases hn : n < 0
  · rw [if_pos (by simpa using hn), if_neg (by simp)]; omega
  · rw [if_neg (by simpa using hn), if_neg (by simp)]; omega

def sgn (n : Int) : Int := if n < 0 then -1 else 1

theorem one_bits : 4607182418800017408 = F 1 := by decide +kernel

/-- math.Copysign(1, ..) on the word -/
theorem sign_bits (n : Int) : (bits .or .u64 (bits .andNot .u64 4607182418800017408 9223372036854775808) (bits .and .u64 ((F n : Nat) : Int) 9223372036854775808)).toNat = F (sgn n) := by
  have hF := F_lt n
  have h1 : bits .andNot .u64 4607182418800017408 9223372036854775808 = ((4607182418800017408 : Nat) : Int) := by decide +kernel
  rw [h1, show (9223372036854775808 : Int) = ((9223372036854775808 : Nat) : Int) from rfl, u64_and_nat _ _ hF (by omega)]
  obtain ⟨r, hr, h1, h2, _⟩ := F_word n
  have hb : F n &&& 9223372036854775808 = if n < 0 then 9223372036854775808 else 0 := by
    rw [h1, word_eq, show 9223372036854775808 = 2 ^ 63 from rfl]
    by_cases hn : n < 0
    · rw [if_pos (by simpa using hn), if_pos hn]
      apply Nat.eq_of_testBit_eq
      intro i
      rw [Nat.testBit_and, Nat.testBit_two_pow]
      by_cases hi : 63 = i
      · subst hi; rw [Nat.testBit_two_pow_add_eq, Nat.testBit_lt_two_pow hr]; rfl
      · rw [decide_eq_false hi, Bool.and_false]
    · rw [if_neg (by simpa using hn), if_neg hn]
      apply Nat.eq_of_testBit_eq
      intro i
      rw [Nat.testBit_and, Nat.testBit_two_pow, Nat.zero_testBit]
      by_cases hi : 63 = i
      · subst hi; rw [Nat.testBit_lt_two_pow hr]; rfl
      · rw [decide_eq_false hi, Bool.and_false]
  rw [hb]
  unfold sgn
  by_cases hn : n < 0
  · rw [if_pos hn, if_pos hn]; decide +kernel
  · rw [if_neg hn, if_neg hn]; decide +kernel
end Go.Proofs.YtoemkhmbeiindaaDoor.Fp
