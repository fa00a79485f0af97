/-
  A note is taken as it was put, bytes are put as they were taken: the arithmetic of it. No condition but the bounds that each theorem names.
-/
import Derived.Test.YthmnjoanehepcaaDoorC1
namespace Go.Proofs.YthmnjoanehepcaaDoor.nn
open Go Go.ChangeShapes Go.WideShapes Go.ChangeAt Go.RowKit
set_option linter.unusedVariables false

theorem val_app (a b : List UInt8) : val (a ++ b) = val a + 256 ^ a.length * val b := by
  induction a with
  | nil => simp [val]
  | cons x r ih =>
    simp only [List.cons_append, val, ih, List.length_cons, Nat.pow_succ]
    rw [Nat.mul_add, ← Nat.mul_assoc, Nat.mul_comm 256 (256 ^ r.length), Nat.add_assoc]
theorem val_lowb (x m : Nat) (h : x < 256 ^ m) : val (lowb x m) = x := by
  have key : ∀ m, val (lowb x m) = x % 256 ^ m := fun m => by
    induction m with
    | zero => simp [lowb, val, Nat.mod_one]
    | succ m ih =>
      rw [lowb_succ, val_app, ih, lowb_len]
      simp only [val, byt_nat, Nat.mul_zero, Nat.add_zero]
      rw [Nat.pow_succ, Nat.mod_mul]
  rw [key m, Nat.mod_eq_of_lt h]
theorem byt_val (l : List UInt8) (i : Nat) (b : UInt8) (h : l[i]? = some b) : byt (val l) i = b := by
  induction l generalizing i with
  | nil => simp at h
  | cons c r ih =>
    have hc : c.toNat < 256 := UInt8.toNat_lt c
    apply UInt8.toNat_inj.1
    rw [byt_nat]
    cases i with
    | zero =>
      simp at h; subst h
      simp only [val, Nat.pow_zero, Nat.div_one]
      rw [Nat.add_mul_mod_self_left, Nat.mod_eq_of_lt hc]
    | succ i =>
      have h' : r[i]? = some b := by simpa using h
      have := congrArg UInt8.toNat (ih i h')
      rw [byt_nat] at this
      rw [← this, Nat.pow_succ, Nat.mul_comm, ← Nat.div_div_eq_div_mul]
      congr 2
      simp only [val]
      omega
theorem lowb_val (l : List UInt8) : lowb (val l) l.length = l := by
  apply List.ext_getElem?
  intro i
  unfold lowb
  rw [List.getElem?_map]
  by_cases hi : i < l.length
  · rw [List.getElem?_range hi]
    obtain ⟨b, hb⟩ : ∃ b, l[i]? = some b := ⟨_, List.getElem?_eq_getElem hi⟩
    rw [hb, Option.map_some, byt_val l i b hb]
  · rw [List.getElem?_eq_none (by simp; omega), List.getElem?_eq_none (by omega)]; rfl
theorem flg_div (n : Nt) (h : 0 ≤ n.s) : flg n / 4 = n.s ∧ (flg n).toNat / 2 % 2 = (if n.h then 1 else 0) ∧ (flg n).toNat % 2 = (if n.q then 1 else 0) := by
  unfold flg
  cases n.h <;> cases n.q <;> simp <;> omega
/-- A part of what lies between. -/
theorem mid (a b c : List UInt8) (i m : Nat) (ha : a.length = i) (hb : b.length = m) : ((a ++ b ++ c).drop i).take m = b := by
  subst ha hb
  simp
theorem putb_parts (n : Nt) : putb n = head3 n ++ lowb n.b.toNat 2 ++ lowb n.st.toNat 8 ++ [byt (flg n).toNat 0] ++ datb n.d 16 := rfl
theorem datb_word (d : List Int) (i m : Nat) (x : Int) (hx : d[i]? = some x) (hm : i < m) (hl : m ≤ d.length) : ((datb d m).drop (4 * i)).take 4 = lowb x.toNat 4 := by
  induction m with
  | zero => omega
  | succ m ih =>
    obtain ⟨y, hy⟩ : ∃ y, d[m]? = some y := ⟨_, List.getElem?_eq_getElem (by omega)⟩
    rw [datb_succ d m y hy]
    have hlm := datb_len d m (by omega)
    by_cases e : i = m
    · subst e
      rw [hx] at hy; cases hy
      rw [List.drop_append_of_le_length (by omega), List.drop_of_length_le (by omega), List.nil_append, List.take_of_length_le (by rw [lowb_len]; omega)]
    · rw [List.drop_append_of_le_length (by omega), List.take_append_of_le_length (by rw [List.length_drop]; omega)]
      exact ih (by omega) (by omega)
theorem bn_app (a c : List UInt8) (b : UInt8) (i : Nat) (ha : a.length = i) : bn (a ++ b :: c) i = b.toNat := by
  subst ha; simp [bn, List.getD_eq_getElem?_getD]
theorem byt0 (x : Int) (h0 : 0 ≤ x) (h1 : x < 256) : ((byt x.toNat 0).toNat : Int) = x := by
  rw [byt_nat]; simp; omega
set_option maxHeartbeats 4000000 in
/-- A note is taken as it was put. -/
theorem tk_putb (n : Nt) (h : n.ok) (hF : n.Fit) : tk (putb n) = n := by
  obtain ⟨⟨k1, k2⟩, ⟨f1, f2⟩, ⟨t1, t2⟩, ⟨b1, b2⟩, s1, s2⟩ := h.bd
  have hfl := flg_bd n ⟨s1, s2⟩
  obtain ⟨q1, q2, q3⟩ := flg_div n s1
  have p0 : bn (putb n) 0 = (byt n.k.toNat 0).toNat := rfl
  have p1 : bn (putb n) 1 = (byt (n.f + 1).toNat 0).toNat := rfl
  have p2 : bn (putb n) 2 = (byt (n.t + 1).toNat 0).toNat := rfl
  have h3 : (head3 n).length = 3 := rfl
  have p3 : pv (putb n) 3 2 = n.b.toNat := by
    unfold pv
    rw [putb_parts, show head3 n ++ lowb n.b.toNat 2 ++ lowb n.st.toNat 8 ++ [byt (flg n).toNat 0] ++ datb n.d 16 = head3 n ++ lowb n.b.toNat 2 ++ (lowb n.st.toNat 8 ++ [byt (flg n).toNat 0] ++ datb n.d 16) by simp, mid _ _ _ 3 2 h3 (lowb_len _ _)]
    exact val_lowb _ _ (by omega)
  have p5 : pv (putb n) 5 8 = n.st.toNat := by
    unfold pv
    rw [putb_parts, show head3 n ++ lowb n.b.toNat 2 ++ lowb n.st.toNat 8 ++ [byt (flg n).toNat 0] ++ datb n.d 16 = (head3 n ++ lowb n.b.toNat 2) ++ lowb n.st.toNat 8 ++ ([byt (flg n).toNat 0] ++ datb n.d 16) by simp, mid _ _ _ 5 8 (by simp [h3, lowb_len]) (lowb_len _ _)]
    exact val_lowb _ _ (by have := hF.st; omega)
  have p13 : bn (putb n) 13 = (byt (flg n).toNat 0).toNat := by
    rw [putb_parts, show head3 n ++ lowb n.b.toNat 2 ++ lowb n.st.toNat 8 ++ [byt (flg n).toNat 0] ++ datb n.d 16 = (head3 n ++ lowb n.b.toNat 2 ++ lowb n.st.toNat 8) ++ byt (flg n).toNat 0 :: datb n.d 16 by simp]
    exact bn_app _ _ _ 13 (by simp [h3, lowb_len])
  have e13 : (bn (putb n) 13 : Int) = flg n := by rw [p13]; exact byt0 _ hfl.1 hfl.2
  have n13 : bn (putb n) 13 = (flg n).toNat := by omega
  refine Nt.ext ?_ ?_ ?_ ?_ ?_ ?_ ?_ ?_ ?_
  · show (bn (putb n) 0 : Int) = n.k
    rw [p0]; exact byt0 _ (by omega) (by omega)
  · show (bn (putb n) 1 : Int) - 1 = n.f
    rw [p1, byt0 _ (by omega) (by omega)]; omega
  · show (bn (putb n) 2 : Int) - 1 = n.t
    rw [p2, byt0 _ (by omega) (by omega)]; omega
  · show (pv (putb n) 3 2 : Int) = n.b
    rw [p3]; omega
  · show (pv (putb n) 5 8 : Int) = n.st
    rw [p5]; have := hF.st; omega
  · show (bn (putb n) 13 : Int) / 4 = n.s
    rw [e13]; exact q1
  · show decide (bn (putb n) 13 / 2 % 2 = 1) = n.h
    rw [n13, q2]; cases n.h <;> rfl
  · show decide (bn (putb n) 13 % 2 = 1) = n.q
    rw [n13, q3]; cases n.q <;> rfl
  · show ((List.range 16).map fun i => (pv (putb n) (14 + 4 * i) 4 : Int)) = n.d
    apply List.ext_getElem?
    intro i
    rw [List.getElem?_map]
    by_cases hi : i < 16
    · rw [List.getElem?_range hi]
      obtain ⟨x, hx⟩ : ∃ x, n.d[i]? = some x := ⟨_, List.getElem?_eq_getElem (by rw [n.hd]; exact hi)⟩
      have hxb := hF.d x (List.mem_of_getElem? hx)
      rw [hx, Option.map_some]
      congr 1
      unfold pv putb
      rw [List.drop_append, headb_len, List.drop_of_length_le (by rw [headb_len]; omega), List.nil_append, show 14 + 4 * i - 14 = 4 * i by omega, datb_word n.d i 16 x hx hi (by rw [n.hd]; omega), val_lowb _ _ (by omega)]
      omega
    · have a1 : (List.range 16)[i]? = none := List.getElem?_eq_none (by rw [List.length_range]; exact Nat.le_of_not_lt hi)
      have a2 : n.d[i]? = none := List.getElem?_eq_none (by rw [n.hd]; exact Nat.le_of_not_lt hi)
      rw [a1, a2, Option.map_none]
set_option maxHeartbeats 4000000 in
/-- Bytes are put as they were taken. -/
theorem putb_tk (l : List UInt8) (hl : l.length = 78) (h : (tk l).ok) : putb (tk l) = l := by
  obtain ⟨⟨k1, k2⟩, ⟨f1, f2⟩, ⟨t1, t2⟩, ⟨b1, b2⟩, s1, s2⟩ := h.bd
  have get : ∀ i, i < 78 → l[i]? = some (l.getD i 0) := fun i hi => by
    rw [List.getD_eq_getElem?_getD, List.getElem?_eq_getElem (by omega)]; rfl
  have one : ∀ (i : Nat) (x : Int), i < 78 → x.toNat = bn l i → [byt x.toNat 0] = (l.drop i).take 1 := fun i x hi hx => by
    rw [hx]
    have : byt (bn l i) 0 = l.getD i 0 := UInt8.toNat_inj.1 (by rw [byt_nat, Nat.pow_zero, Nat.div_one, Nat.mod_eq_of_lt (bn_lt l i)]; rfl)
    rw [this, List.take_one, List.head?_drop, get i hi]; rfl
  have part : ∀ (i m : Nat), i + m ≤ 78 → lowb (pv l i m) m = (l.drop i).take m := fun i m hi => by
    have := lowb_val ((l.drop i).take m)
    rw [List.length_take, List.length_drop, Nat.min_eq_left (by omega)] at this
    exact this
  have join : ∀ (i m k : Nat), (l.drop i).take m ++ (l.drop (i + m)).take k = (l.drop i).take (m + k) := fun i m k => by
    rw [← List.drop_drop, List.take_add]
  have e0 := one 0 (tk l).k (by omega) (by show ((bn l 0 : Int)).toNat = bn l 0; omega)
  have e1 := one 1 ((tk l).f + 1) (by omega) (by show ((bn l 1 : Int) - 1 + 1).toNat = bn l 1; omega)
  have e2 := one 2 ((tk l).t + 1) (by omega) (by show ((bn l 2 : Int) - 1 + 1).toNat = bn l 2; omega)
  have e3 : lowb (tk l).b.toNat 2 = (l.drop 3).take 2 := part 3 2 (by omega)
  have e5 : lowb (tk l).st.toNat 8 = (l.drop 5).take 8 := part 5 8 (by omega)
  have hflg : (flg (tk l)).toNat = bn l 13 := by
    have hs : (bn l 13 : Int) / 4 ≤ 3 := s2
    show (4 * ((bn l 13 : Int) / 4) + (if decide (bn l 13 / 2 % 2 = 1) = true then 2 else 0) + (if decide (bn l 13 % 2 = 1) = true then 1 else 0)).toNat = bn l 13
    by_cases h1 : bn l 13 / 2 % 2 = 1 <;> by_cases h2 : bn l 13 % 2 = 1 <;> simp [h1, h2] <;> omega
  have e13 := one 13 (flg (tk l)) (by omega) hflg
  have ed : ∀ m, m ≤ 16 → datb (tk l).d m = (l.drop 14).take (4 * m) := fun m hm => by
    induction m with
    | zero => simp [datb]
    | succ m ih =>
      have hx : (tk l).d[m]? = some (pv l (14 + 4 * m) 4 : Int) := by
        show ((List.range 16).map fun i => (pv l (14 + 4 * i) 4 : Int))[m]? = _
        rw [List.getElem?_map, List.getElem?_range (by omega)]; rfl
      rw [datb_succ _ m _ hx, ih (by omega), Int.toNat_natCast, part (14 + 4 * m) 4 (by omega), join, Nat.mul_succ]
  have e78 := ed 16 (by omega)
  have hh : head3 (tk l) = [byt (tk l).k.toNat 0] ++ [byt ((tk l).f + 1).toNat 0] ++ [byt ((tk l).t + 1).toNat 0] := rfl
  rw [putb_parts, hh, e0, e1, e2, e3, e5, e13, e78]
  rw [join 0 1 1, join 0 2 1, join 0 3 2, join 0 5 8, join 0 13 1, join 0 14 64]
  rw [List.drop_zero, List.take_of_length_le (by omega)]
theorem tk_fit (l : List UInt8) : (tk l).Fit := by
  refine ⟨?_, fun x hx => ?_⟩
  · have := pv_lt l 5 8
    show 0 ≤ (pv l 5 8 : Int) ∧ (pv l 5 8 : Int) < 18446744073709551616
    omega
  · have hx' : x ∈ (List.range 16).map fun i => (pv l (14 + 4 * i) 4 : Int) := hx
    obtain ⟨i, _, rfl⟩ := List.mem_map.1 hx'
    have := pv_lt l (14 + 4 * i) 4
    omega
end Go.Proofs.YthmnjoanehepcaaDoor.nn
