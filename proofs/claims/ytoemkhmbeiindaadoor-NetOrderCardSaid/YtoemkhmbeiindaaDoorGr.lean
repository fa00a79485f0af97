/-
  What grid's Place and Hops, and the document's Place, answer at whole numbers: contracts. No condition beyond the bounds that each theorem names.
-/
import Derived.Test.YtoemkhmbeiindaaDoorRows
import Derived.Test.YtoemkhmbeiindaaDoorFp
import Derived.WalkKit
import Derived.ProofKit
import Derived.OpenShut
import Derived.WalkLawsBesides
import Derived.Handy
import Derived.Laws.Externs
import Derived.Lib.Hide
namespace Go.Proofs.YtoemkhmbeiindaaDoor.tt
open Go Go.ChangeShapes Go.WideShapes Go.ChangeAt Go.RowKit Go.Proofs.YtoemkhmbeiindaaDoor.Fp
set_option linter.unusedVariables false
theorem ext24 (b : Nat) (w : World) : (callFunc 75 #[.float .f64 b]).run Tryd.prog w = .ok (.value (.int .u64 b)) w := by
  rw [run_callFunc_extern Tryd.func75 (by kernel_rfl) (by kernel_rfl) (by kernel_rfl) (e := Extern.MathFloatBits.float64bits) (by rfl)]
  rfl
theorem ext23 (b : Int) (w : World) : (callFunc 74 #[.int .u64 b]).run Tryd.prog w = .ok (.value (.float .f64 b.toNat)) w := by
  rw [run_callFunc_extern Tryd.func74 (by kernel_rfl) (by kernel_rfl) (by kernel_rfl) (e := Extern.MathFloatBits.float64frombits) (by rfl)]
  rfl
theorem ext26 (n : Int) (w : World) (h : n.natAbs < 2 ^ 53) : (callFunc 77 #[.float .f64 (F n)]).run Tryd.prog w = .ok (.value (.float .f64 (F n))) w := by
  rw [run_callFunc_extern Tryd.func77 (by kernel_rfl) (by kernel_rfl) (by kernel_rfl) (e := Extern.MathFloor.toIntegral "math.archTrunc" .zero) (by rfl)]
  have hd : ∃ s m p, FloatKind.f64.decode (F n) = .number s m p := by
    obtain ⟨u, _, r⟩ := read_F' n h
    exact ⟨_, _, _, r⟩
  obtain ⟨s, m, p, hd⟩ := hd
  have ht := trunc_F n h
  rw [hd] at ht
  have key : Extern.MathFloor.toIntegral "math.archTrunc" .zero #[.float .f64 (F n)] = pure (.float .f64 (F n)) := by
    rw [← ht]
    change Extern.MathFloor.toIntegral.match_1 _ (FloatKind.f64.decode _) _ _ = _
    rw [ht, hd]
    show pure _ = _
    rw [ht]
  rw [key]
  rfl

/-- math.Abs -/
theorem abs_any (n : Int) (w : World) : Calls Tryd.prog 72 #[.float .f64 (F n)] w fun e w' => e = .returned (.float .f64 (F n.natAbs)) ∧ w = w' := by
  have e24 := ext24 (F n) w
  have e23 := ext23
  go_enter Tryd.func72, Tryd.ntmps72
  go_wp2
  go_ret
  exact ⟨by rw [abs_bits]; rfl, rfl⟩

/-- math.Trunc -/
theorem trunc_any (n : Int) (w : World) (h : n.natAbs < 2 ^ 53) : Calls Tryd.prog 76 #[.float .f64 (F n)] w fun e w' => e = .returned (.float .f64 (F n)) ∧ w = w' := by
  have e26 := ext26 n w h
  clear h
  go_enter Tryd.func76, Tryd.ntmps76
  go_wp2
  go_ret
  exact ⟨rfl, rfl⟩

theorem lo_F : 13920626448202203136 = F (-1048576) := by decide +kernel
theorem hi_F : 4697254411347427328 = F 1048576 := by decide +kernel

/-- isPart: yes -/
theorem part_yes (n : Int) (w : World) (h1 : -1048576 ≤ n) (h2 : n ≤ 1048576) : Calls Tryd.prog 73 #[.float .f64 (F n)] w fun e w' => e = .returned (.bool true) ∧ w = w' := by
  have q1 := order_F n (-1048576) (by omega) (by omega)
  have q2 := order_F n 1048576 (by omega) (by omega)
  have q3 := order_F n n (by omega) (by omega)
  rw [← lo_F] at q1; rw [← hi_F] at q2
  have g1 : (FloatKind.f64.format.order (F n) 13920626448202203136 == some .gt || FloatKind.f64.format.order (F n) 13920626448202203136 == some .eq) = true := by
    rw [dbl, q1]; simp only [compare, compareOfLessAndEq]; rw [if_neg (by omega)]; split <;> rfl
  have g2 : (FloatKind.f64.format.order (F n) 4697254411347427328 == some .lt || FloatKind.f64.format.order (F n) 4697254411347427328 == some .eq) = true := by
    rw [dbl, q2]; simp only [compare, compareOfLessAndEq]
    by_cases hn : n < 1048576
    · rw [if_pos hn]; rfl
    · rw [if_neg hn, if_pos (by omega)]; rfl
  have g3 : (FloatKind.f64.format.order (F n) (F n) == some .eq) = true := by
    rw [dbl, q3]; simp [compare, compareOfLessAndEq]
  have hb : n.natAbs < 2 ^ 53 := by omega
  have HB := Lib.hid hb
  clear q1 q2 q3 h1 h2 hb
  go_enter Tryd.func73, Tryd.ntmps73
  go_wp2_with (go_at_call 76; refine (trunc_any _ _ HB.out).mono ?_; rintro e w' ⟨rfl, rfl⟩)
  go_ret
  exact ⟨rfl, rfl⟩

/-- isPart: no -/
theorem part_no (n : Int) (w : World) (h : n < -1048576 ∨ 1048576 < n) (h1 : -9223372036854775808 ≤ n) (h2 : n ≤ 9223372036854775807) : Calls Tryd.prog 73 #[.float .f64 (F n)] w fun e w' => e = .returned (.bool false) ∧ w = w' := by
  have q1 := order_any n (-1048576) (by omega) (by omega)
  have q2 := order_any n 1048576 (by omega) (by omega)
  rw [← lo_F] at q1; rw [← hi_F] at q2
  by_cases hl : n < -1048576
  · have g1 : (FloatKind.f64.format.order (F n) 13920626448202203136 == some .gt || FloatKind.f64.format.order (F n) 13920626448202203136 == some .eq) = false := by
      rw [dbl, q1]; simp only [compare, compareOfLessAndEq]; rw [if_pos (by omega)]; rfl
    clear q1 q2 h h1 h2 hl
    go_enter Tryd.func73, Tryd.ntmps73
    go_wp2_with fail
    go_ret
    exact ⟨rfl, rfl⟩
  · have g1 : (FloatKind.f64.format.order (F n) 13920626448202203136 == some .gt || FloatKind.f64.format.order (F n) 13920626448202203136 == some .eq) = true := by
      rw [dbl, q1]; simp only [compare, compareOfLessAndEq]; rw [if_neg (by omega)]; split <;> rfl
    have g2 : (FloatKind.f64.format.order (F n) 4697254411347427328 == some .lt || FloatKind.f64.format.order (F n) 4697254411347427328 == some .eq) = false := by
      rw [dbl, q2]; simp only [compare, compareOfLessAndEq]
      rw [if_neg (by omega), if_neg (by omega)]; rfl
    clear q1 q2 h h1 h2 hl
    go_enter Tryd.func73, Tryd.ntmps73
    go_wp2_with fail
    go_ret
    exact ⟨rfl, rfl⟩

/-- is a whole number a part of a place? -/
def inB (n : Int) : Bool := decide (-1048576 ≤ n ∧ n ≤ 1048576)
theorem inB_yes {n : Int} (h : inB n = true) : -1048576 ≤ n ∧ n ≤ 1048576 := by simpa [inB] using h
theorem inB_no {n : Int} (h : inB n = false) : n < -1048576 ∨ 1048576 < n := by
  simp [inB] at h; omega
/-- fits an int64 -/
def i64 (n : Int) : Prop := -9223372036854775808 ≤ n ∧ n ≤ 9223372036854775807

theorem part_any (n : Int) (w : World) (h : i64 n) : Calls Tryd.prog 73 #[.float .f64 (F n)] w fun e w' => e = .returned (.bool (inB n)) ∧ w = w' := by
  cases hb : inB n with
  | true => exact part_yes n w (inB_yes hb).1 (inB_yes hb).2
  | false => exact part_no n w (inB_no hb) h.1 h.2

/-- isPlace -/
theorem isplace_any (x y : Int) (w : World) (hx : i64 x) (hy : i64 y) : Calls Tryd.prog 71 #[.complex .f64 (F x) (F y)] w fun e w' => e = .returned (.bool (inB x && inB y)) ∧ w = w' := by
  have HX := Lib.hid hx
  have HY := Lib.hid hy
  clear hx hy
  cases hb : inB x with
  | true =>
    have HB := Lib.hid hb
    clear hb
    go_enter Tryd.func71, Tryd.ntmps71
    go_wp2_with (first | (go_at_call 73; ((with_reducible refine (part_any x _ HX.out).mono ?_); rintro e w' ⟨rfl, rfl⟩; rw [HB.out])) | (go_at_call 73; ((with_reducible refine (part_any y _ HY.out).mono ?_); rintro e w' ⟨rfl, rfl⟩)))
    go_ret
    exact ⟨rfl, rfl⟩
  | false =>
    have HB := Lib.hid hb
    clear hb
    go_enter Tryd.func71, Tryd.ntmps71
    go_wp2_with (go_at_call 73; ((with_reducible refine (part_any x _ HX.out).mono ?_); rintro e w' ⟨rfl, rfl⟩; rw [HB.out]))
    go_ret
    exact ⟨rfl, rfl⟩

theorem csub (P : Program) (t : TypeId) (u v x y : Int) (hu : inB u = true) (hv : inB v = true) (hx : inB x = true) (hy : inB y = true) (w : World) :
    (binOp .sub t (.complex .f64 (F u) (F v)) (.complex .f64 (F x) (F y))).run P w = .ok (.complex .f64 (F (u - x)) (F (v - y))) w := by
  have := inB_yes hu; have := inB_yes hv; have := inB_yes hx; have := inB_yes hy
  refine run_complex_sum w .sub (.inr rfl) t .f64 _ _ _ _ _ _ ?_
  show ((Ieee.double.sub _ _).bind fun re => (Ieee.double.sub _ _).bind fun im => some (re, im)) = _
  rw [sub_F u x (by omega) (by omega), sub_F v y (by omega) (by omega)]
  rfl
theorem cadd (P : Program) (t : TypeId) (u v x y : Int) (hu : u.natAbs < 2 ^ 52) (hv : v.natAbs < 2 ^ 52) (hx : x.natAbs < 2 ^ 52) (hy : y.natAbs < 2 ^ 52) (w : World) :
    (binOp .add t (.complex .f64 (F u) (F v)) (.complex .f64 (F x) (F y))).run P w = .ok (.complex .f64 (F (u + x)) (F (v + y))) w := by
  refine run_complex_sum w .add (.inl rfl) t .f64 _ _ _ _ _ _ ?_
  show ((Ieee.double.add _ _).bind fun re => (Ieee.double.add _ _).bind fun im => some (re, im)) = _
  rw [add_F u x (by omega) (by omega), add_F v y (by omega) (by omega)]
  rfl
theorem fadd (P : Program) (t : TypeId) (u v : Int) (hu : u.natAbs < 2 ^ 52) (hv : v.natAbs < 2 ^ 52) (w : World) :
    (binOp .add t (.float .f64 (F u)) (.float .f64 (F v))).run P w = .ok (.float .f64 (F (u + v))) w :=
  run_float_arith w .add t .f64 _ _ _ (add_F u v hu hv)
theorem f2i (n : Int) (w : World) (h : n.natAbs < 2 ^ 53) : (convert 114 3 (.float .f64 (F n))).run Tryd.prog w = .ok (.int .i64 n) w :=
  run_convert_float_int w 114 3 .f64 .i64 _ _ (by kernel_rfl) (by kernel_rfl) (toInt_F n h)

def dist (a b c d : Int) : Int := (c - a).natAbs + (d - b).natAbs

/-- Hops of two places -/
theorem hops_yes (a b c d : Int) (w : World) (ha : inB a = true) (hb : inB b = true) (hc : inB c = true) (hd : inB d = true) :
    Calls Tryd.prog 58 #[.complex .f64 (F a) (F b), .complex .f64 (F c) (F d)] w fun e w' => e = .returned (.tuple #[.int .i64 (dist a b c d), .int .i64 0]) ∧ w = w' := by
  have hs := csub Tryd.prog 98 c d a b hc hd ha hb w
  have la := inB_yes ha; have lb := inB_yes hb; have lc := inB_yes hc; have ld := inB_yes hd
  have hadd := fadd Tryd.prog 114 (((c - a).natAbs : Nat) : Int) (((d - b).natAbs : Nat) : Int) (by omega) (by omega) w
  have hcv := f2i ((((c - a).natAbs : Nat) : Int) + (((d - b).natAbs : Nat) : Int)) w (by omega)
  have H1 := Lib.hid (show (inB a && inB b) = true by rw [ha, hb]; rfl)
  have H2 := Lib.hid (show (inB c && inB d) = true by rw [hc, hd]; rfl)
  have I := Lib.hid (show (i64 a ∧ i64 b) ∧ (i64 c ∧ i64 d) from ⟨⟨⟨by omega, by omega⟩, ⟨by omega, by omega⟩⟩, ⟨⟨by omega, by omega⟩, ⟨by omega, by omega⟩⟩⟩)
  clear ha hb hc hd la lb lc ld
  go_enter Tryd.func58, Tryd.ntmps58
  go_wp2_with (first
    | (go_at_call 71; ((with_reducible refine (isplace_any a b _ I.out.1.1 I.out.1.2).mono ?_); rintro e w' ⟨rfl, rfl⟩; rw [H1.out]))
    | (go_at_call 71; ((with_reducible refine (isplace_any c d _ I.out.2.1 I.out.2.2).mono ?_); rintro e w' ⟨rfl, rfl⟩; rw [H2.out]))
    | (go_at_call 72; ((with_reducible refine (abs_any (c - a) _).mono ?_); rintro e w' ⟨rfl, rfl⟩))
    | (go_at_call 72; ((with_reducible refine (abs_any (d - b) _).mono ?_); rintro e w' ⟨rfl, rfl⟩)))
  go_ret2
  exact ⟨rfl, rfl⟩

/-- Hops where one is none -/
theorem hops_no (a b c d : Int) (w : World) (ha : i64 a) (hb : i64 b) (hc : i64 c) (hd : i64 d) (hn : ((inB a && inB b) && (inB c && inB d)) = false) :
    Calls Tryd.prog 58 #[.complex .f64 (F a) (F b), .complex .f64 (F c) (F d)] w fun e w' => e = .returned (.tuple #[.int .i64 0, .int .i64 2]) ∧ w = w' := by
  have I := Lib.hid (show (i64 a ∧ i64 b) ∧ (i64 c ∧ i64 d) from ⟨⟨ha, hb⟩, ⟨hc, hd⟩⟩)
  cases h1 : (inB a && inB b) with
  | false =>
    have H1 := Lib.hid h1
    clear h1 hn ha hb hc hd
    go_enter Tryd.func58, Tryd.ntmps58
    go_wp2_with (go_at_call 71; ((with_reducible refine (isplace_any a b _ I.out.1.1 I.out.1.2).mono ?_); rintro e w' ⟨rfl, rfl⟩; rw [H1.out]))
    go_ret2
    exact ⟨rfl, rfl⟩
  | true =>
    have h2 : (inB c && inB d) = false := by rw [h1] at hn; simpa using hn
    have H1 := Lib.hid h1
    have H2 := Lib.hid h2
    clear h1 h2 hn ha hb hc hd
    go_enter Tryd.func58, Tryd.ntmps58
    go_wp2_with (first
      | (go_at_call 71; ((with_reducible refine (isplace_any a b _ I.out.1.1 I.out.1.2).mono ?_); rintro e w' ⟨rfl, rfl⟩; rw [H1.out]))
      | (go_at_call 71; ((with_reducible refine (isplace_any c d _ I.out.2.1 I.out.2.2).mono ?_); rintro e w' ⟨rfl, rfl⟩; rw [H2.out])))
    go_ret2
    exact ⟨rfl, rfl⟩

/-- where a node lies -/
def px (n : Int) : Int := if n = -1 then -1 else n % 4
def py (n : Int) : Int := if n = -1 then 0 else n / 4

theorem m1_F : 13830554455654793216 = F (-1) := by decide +kernel
theorem z_F : 0 = F 0 := by decide +kernel
theorem two_F : 4611686018427387904 = F 2 := by decide +kernel

theorem node_yes (n : Int) (w : World) (h1 : -1 ≤ n) (h2 : n ≤ 15) : Calls Tryd.prog 57 #[.int .i64 n] w fun e w' => e = .returned (.tuple #[.complex .f64 (F (px n)) (F (py n)), .int .i64 0]) ∧ w = w' := by
  by_cases hm : n = -1
  · subst hm
    go_enter Tryd.func57, Tryd.ntmps57
    go_wp2
    go_ret2
    exact ⟨by rw [show px (-1) = -1 from rfl, show py (-1) = 0 from rfl, ← m1_F, ← z_F]; rfl, rfl⟩
  · have hpx : F (px n) = F (n % 4) := by unfold px; rw [if_neg hm]
    have hpy : F (py n) = F (n / 4) := by unfold py; rw [if_neg hm]
    rw [hpx, hpy]
    clear hpx hpy
    go_enter Tryd.func57, Tryd.ntmps57
    go_wp2
    go_ret2
    exact ⟨rfl, rfl⟩

theorem node_no (n : Int) (w : World) (h : n < -1 ∨ 15 < n) : Calls Tryd.prog 57 #[.int .i64 n] w fun e w' => e = .returned (.tuple #[.complex .f64 (F 0) (F 0), .int .i64 5]) ∧ w = w' := by
  rw [← z_F]
  rcases h with h | h
  · go_enter Tryd.func57, Tryd.ntmps57
    go_wp2
    go_ret2
    exact ⟨rfl, rfl⟩
  · have h' : ¬ n < -1 := by omega
    go_enter Tryd.func57, Tryd.ntmps57
    go_wp2
    go_ret2
    exact ⟨rfl, rfl⟩

theorem ref_yes (n : Int) (w : World) (h1 : -1 ≤ n) (h2 : n ≤ 15) : Calls Tryd.prog 43 #[.int .i64 n] w fun e w' => e = .returned (.tuple #[.int .i64 (px n), .int .i64 (py n), .int .i64 0]) ∧ w = w' := by
  by_cases hm : n = -1
  · subst hm
    go_enter Tryd.func43, Tryd.ntmps43
    go_wp2
    go_ret3
    exact ⟨rfl, rfl⟩
  · have hpx : px n = n % 4 := by unfold px; rw [if_neg hm]
    have hpy : py n = n / 4 := by unfold py; rw [if_neg hm]
    rw [hpx, hpy]
    clear hpx hpy
    go_enter Tryd.func43, Tryd.ntmps43
    go_wp2
    go_ret3
    exact ⟨rfl, rfl⟩

theorem ref_no (n : Int) (w : World) (h : n < -1 ∨ 15 < n) : Calls Tryd.prog 43 #[.int .i64 n] w fun e w' => e = .returned (.tuple #[.int .i64 0, .int .i64 0, .int .i64 5]) ∧ w = w' := by
  rcases h with h | h
  · go_enter Tryd.func43, Tryd.ntmps43
    go_wp2
    go_ret3
    exact ⟨rfl, rfl⟩
  · have h' : ¬ n < -1 := by omega
    go_enter Tryd.func43, Tryd.ntmps43
    go_wp2
    go_ret3
    exact ⟨rfl, rfl⟩

end Go.Proofs.YtoemkhmbeiindaaDoor.tt
