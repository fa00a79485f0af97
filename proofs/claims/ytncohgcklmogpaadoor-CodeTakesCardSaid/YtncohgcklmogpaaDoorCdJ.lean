/-
  What the document's own Take answers. No condition but the bounds that each theorem names.
-/
import Derived.Test.YtncohgcklmogpaaDoorCdI
namespace Go.Proofs.YtncohgcklmogpaaDoor.cd
open Go Go.ChangeShapes Go.WideShapes Go.ChangeAt Go.RowKit
set_option linter.unusedVariables false
set_option maxRecDepth 1000000

/-- The numbers that a word is parted into, as the walk spells them. -/
structure Dg (x op d1 d2 d3 y1 y2 y3 n0 n1 : Nat) : Prop where
  q26 : (x : Int) / 67108864 = (op : Int)
  wr : IntKind.u8.wrap (op : Int) = (op : Int)
  q22 : (x : Int) / 4194304 = (d1 : Int)
  q18 : (x : Int) / 262144 = (d2 : Int)
  q14 : (x : Int) / 16384 = (d3 : Int)
  r1 : (d1 : Int) % 16 = (y1 : Int)
  r2 : (d2 : Int) % 16 = (y2 : Int)
  r3 : (d3 : Int) % 16 = (y3 : Int)
  m22 : (x : Int) % 4194304 = (n0 : Int)
  m14 : (x : Int) % 16384 = (n1 : Int)
theorem dg (x : Nat) (hx : x < 4294967296) : Dg x (x / 67108864) (x / 4194304) (x / 262144) (x / 16384) (x / 4194304 % 16) (x / 262144 % 16) (x / 16384 % 16) (x % 4194304) (x % 16384) :=
  ⟨by omega, by rw [IntKind.wrap_u8']; omega, by omega, by omega, by omega, by omega, by omega, by omega, by omega, by omega⟩
set_option maxHeartbeats 2000000 in
theorem rtake_0 (x op d1 d2 d3 y1 y2 y3 n0 n1 : Nat) (w : World) (D : Dg x op d1 d2 d3 y1 y2 y3 n0 n1) (hb : op < 64 ∧ y1 < 16 ∧ y2 < 16 ∧ y3 < 16 ∧ n0 < 4194304 ∧ n1 < 16384 ∧ x < 4294967296) (hf : rf op = 0) (M z : Bool) (v : Int) (hM : may ⟨op, 0, 0, 0, 0⟩ = M) (hv : M = true → wd ⟨op, 0, 0, 0, 0⟩ = v) (hz : z = decide (v = (x : Int))) :
    Calls Tryd.prog 14 #[.int .u32 (x : Int)] w fun e w' => e = .returned (.tuple #[.agg (ca (if M && z then ⟨op, 0, 0, 0, 0⟩ else zc)), .int .i64 (terr (M && z))]) ∧ w.grownBy w' none := by
  have HF : Hid (∀ w, _) := Lib.hid fun w => form_any op w
  rw [hf] at HF
  have HM : Hid (∀ w, _) := Lib.hid fun w => rmay_any ⟨op, 0, 0, 0, 0⟩ w (by show op < 256; omega)
  rw [hM] at HM
  have HW : Hid (M = true → ∀ w, _) := Lib.hid fun h w => rword_any ⟨op, 0, 0, 0, 0⟩ w (hM.trans h)
  obtain ⟨b1, b2, b3, b4, b5, b6, b7⟩ := hb
  obtain ⟨q26, wr, q22, q18, q14, r1, r2, r3, m22, m14⟩ := D
  obtain ⟨w3, hw3, hg3, hA3, hC3⟩ := twob w (.cells #[.int .u8 0, .int .i64 0, .int .i64 0, .int .i64 0, .int .i64 0] 27) (.cells #[.int .u8 (op : Int), .int .i64 0, .int .i64 0, .int .i64 0, .int .i64 0] 27)
  have HW3 := Lib.hid hw3
  have HA := Lib.hid hA3
  have HC := Lib.hid hC3
  have HG := Lib.hid hg3
  clear hf hM hw3 hg3 hA3 hC3
  unfold ca at *
  cases M
  · clear HW hv hz
    go_enter Tryd.func14, Tryd.ntmps14
    go_wp2_with (first
      | (go_at_call 21; ((with_reducible refine (HF.out _).mono ?_); rintro e w1 ⟨rfl, rfl⟩))
      | (go_at_call 13; ((with_reducible refine (HM.out _).mono ?_); rintro e w5 ⟨rfl, hg5⟩; rw [HW3.out] at hg5; have HG5 := Lib.hid (grown_trans HG.out hg5); have HA5 := Lib.hid (row_grown HA.out hg5); have HC5 := Lib.hid (row_grown HC.out hg5); obtain ⟨d0, d1', d2', d3', d4⟩ := cells5 HC5.out; obtain ⟨r0', r1', r2', r3', r4'⟩ := cells5 HA5.out; have fz := frz HA5.out; clear hg5)))
    refine ret2c (c := zc) rfl (by rfl) rfl (set5 HA5.out _ _ _ _ _) ?_
    exact ⟨rfl, grown_set (grown_set (grown_set (grown_set (grown_set HG5.out _ _ (by omega) _) _ _ (by omega) _) _ _ (by omega) _) _ _ (by omega) _) _ _ (by omega) _⟩
  · have HV := Lib.hid (HW.out rfl)
    rw [hv rfl] at HV
    clear HW hv
    cases z
    · have hne : (v == (x : Int)) = false := by simpa using hz
      have hnn : (v != (x : Int)) = true := by simpa using hz
      clear hz
      go_enter Tryd.func14, Tryd.ntmps14
      go_wp2_with (first
        | (go_at_call 21; ((with_reducible refine (HF.out _).mono ?_); rintro e w1 ⟨rfl, rfl⟩))
        | (go_at_call 13; ((with_reducible refine (HM.out _).mono ?_); rintro e w5 ⟨rfl, hg5⟩; rw [HW3.out] at hg5; have HG5 := Lib.hid (grown_trans HG.out hg5); have HA5 := Lib.hid (row_grown HA.out hg5); have HC5 := Lib.hid (row_grown HC.out hg5); obtain ⟨d0, d1', d2', d3', d4⟩ := cells5 HC5.out; obtain ⟨r0', r1', r2', r3', r4'⟩ := cells5 HA5.out; have fz := frz HA5.out; clear hg5))
        | (go_at_call 18; ((with_reducible refine (HV.out _).mono ?_); rintro e w6 ⟨rfl, hg6⟩; have HG6 := Lib.hid (grown_trans HG5.out hg6); have HA6 := Lib.hid (row_grown HA5.out hg6); obtain ⟨d0, d1', d2', d3', d4⟩ := cells5 (row_grown HC5.out hg6); obtain ⟨r0', r1', r2', r3', r4'⟩ := cells5 HA6.out; have fz := frz HA6.out; clear hg6)))
      refine ret2c (c := zc) rfl (by rfl) rfl (set5 HA6.out _ _ _ _ _) ?_
      exact ⟨rfl, grown_set (grown_set (grown_set (grown_set (grown_set HG6.out _ _ (by omega) _) _ _ (by omega) _) _ _ (by omega) _) _ _ (by omega) _) _ _ (by omega) _⟩
    · obtain rfl : v = (x : Int) := by simpa using hz
      clear hz
      go_enter Tryd.func14, Tryd.ntmps14
      go_wp2_with (first
        | (go_at_call 21; ((with_reducible refine (HF.out _).mono ?_); rintro e w1 ⟨rfl, rfl⟩))
        | (go_at_call 13; ((with_reducible refine (HM.out _).mono ?_); rintro e w5 ⟨rfl, hg5⟩; rw [HW3.out] at hg5; have HG5 := Lib.hid (grown_trans HG.out hg5); have HA5 := Lib.hid (row_grown HA.out hg5); have HC5 := Lib.hid (row_grown HC.out hg5); obtain ⟨d0, d1', d2', d3', d4⟩ := cells5 HC5.out; obtain ⟨r0', r1', r2', r3', r4'⟩ := cells5 HA5.out; have fz := frz HA5.out; clear hg5))
        | (go_at_call 18; ((with_reducible refine (HV.out _).mono ?_); rintro e w6 ⟨rfl, hg6⟩; have HG6 := Lib.hid (grown_trans HG5.out hg6); have HA6 := Lib.hid (row_grown HA5.out hg6); obtain ⟨d0, d1', d2', d3', d4⟩ := cells5 (row_grown HC5.out hg6); obtain ⟨r0', r1', r2', r3', r4'⟩ := cells5 HA6.out; have fz := frz HA6.out; clear hg6)))
      refine ret2c (c := ⟨op, 0, 0, 0, 0⟩) rfl (by rfl) rfl (set5 HA6.out _ _ _ _ _) ?_
      exact ⟨rfl, grown_set (grown_set (grown_set (grown_set (grown_set HG6.out _ _ (by omega) _) _ _ (by omega) _) _ _ (by omega) _) _ _ (by omega) _) _ _ (by omega) _⟩
set_option maxHeartbeats 2000000 in
theorem rtake_1 (x op d1 d2 d3 y1 y2 y3 n0 n1 : Nat) (w : World) (D : Dg x op d1 d2 d3 y1 y2 y3 n0 n1) (hb : op < 64 ∧ y1 < 16 ∧ y2 < 16 ∧ y3 < 16 ∧ n0 < 4194304 ∧ n1 < 16384 ∧ x < 4294967296) (hf : rf op = 1) (M z : Bool) (v : Int) (hM : may ⟨op, (y1 : Int), (y2 : Int), (y3 : Int), 0⟩ = M) (hv : M = true → wd ⟨op, (y1 : Int), (y2 : Int), (y3 : Int), 0⟩ = v) (hz : z = decide (v = (x : Int))) :
    Calls Tryd.prog 14 #[.int .u32 (x : Int)] w fun e w' => e = .returned (.tuple #[.agg (ca (if M && z then ⟨op, (y1 : Int), (y2 : Int), (y3 : Int), 0⟩ else zc)), .int .i64 (terr (M && z))]) ∧ w.grownBy w' none := by
  have HF : Hid (∀ w, _) := Lib.hid fun w => form_any op w
  rw [hf] at HF
  have HM : Hid (∀ w, _) := Lib.hid fun w => rmay_any ⟨op, (y1 : Int), (y2 : Int), (y3 : Int), 0⟩ w (by show op < 256; omega)
  rw [hM] at HM
  have HW : Hid (M = true → ∀ w, _) := Lib.hid fun h w => rword_any ⟨op, (y1 : Int), (y2 : Int), (y3 : Int), 0⟩ w (hM.trans h)
  obtain ⟨b1, b2, b3, b4, b5, b6, b7⟩ := hb
  obtain ⟨q26, wr, q22, q18, q14, r1, r2, r3, m22, m14⟩ := D
  obtain ⟨w3, hw3, hg3, hA3, hC3⟩ := twob w (.cells #[.int .u8 0, .int .i64 0, .int .i64 0, .int .i64 0, .int .i64 0] 27) (.cells #[.int .u8 (op : Int), .int .i64 (y1 : Int), .int .i64 (y2 : Int), .int .i64 (y3 : Int), .int .i64 0] 27)
  have HW3 := Lib.hid hw3
  have HA := Lib.hid hA3
  have HC := Lib.hid hC3
  have HG := Lib.hid hg3
  clear hf hM hw3 hg3 hA3 hC3
  unfold ca at *
  cases M
  · clear HW hv hz
    go_enter Tryd.func14, Tryd.ntmps14
    go_wp2_with (first
      | (go_at_call 21; ((with_reducible refine (HF.out _).mono ?_); rintro e w1 ⟨rfl, rfl⟩))
      | (go_at_call 13; ((with_reducible refine (HM.out _).mono ?_); rintro e w5 ⟨rfl, hg5⟩; rw [HW3.out] at hg5; have HG5 := Lib.hid (grown_trans HG.out hg5); have HA5 := Lib.hid (row_grown HA.out hg5); have HC5 := Lib.hid (row_grown HC.out hg5); obtain ⟨d0, d1', d2', d3', d4⟩ := cells5 HC5.out; obtain ⟨r0', r1', r2', r3', r4'⟩ := cells5 HA5.out; have fz := frz HA5.out; clear hg5)))
    refine ret2c (c := zc) rfl (by rfl) rfl (set5 HA5.out _ _ _ _ _) ?_
    exact ⟨rfl, grown_set (grown_set (grown_set (grown_set (grown_set HG5.out _ _ (by omega) _) _ _ (by omega) _) _ _ (by omega) _) _ _ (by omega) _) _ _ (by omega) _⟩
  · have HV := Lib.hid (HW.out rfl)
    rw [hv rfl] at HV
    clear HW hv
    cases z
    · have hne : (v == (x : Int)) = false := by simpa using hz
      have hnn : (v != (x : Int)) = true := by simpa using hz
      clear hz
      go_enter Tryd.func14, Tryd.ntmps14
      go_wp2_with (first
        | (go_at_call 21; ((with_reducible refine (HF.out _).mono ?_); rintro e w1 ⟨rfl, rfl⟩))
        | (go_at_call 13; ((with_reducible refine (HM.out _).mono ?_); rintro e w5 ⟨rfl, hg5⟩; rw [HW3.out] at hg5; have HG5 := Lib.hid (grown_trans HG.out hg5); have HA5 := Lib.hid (row_grown HA.out hg5); have HC5 := Lib.hid (row_grown HC.out hg5); obtain ⟨d0, d1', d2', d3', d4⟩ := cells5 HC5.out; obtain ⟨r0', r1', r2', r3', r4'⟩ := cells5 HA5.out; have fz := frz HA5.out; clear hg5))
        | (go_at_call 18; ((with_reducible refine (HV.out _).mono ?_); rintro e w6 ⟨rfl, hg6⟩; have HG6 := Lib.hid (grown_trans HG5.out hg6); have HA6 := Lib.hid (row_grown HA5.out hg6); obtain ⟨d0, d1', d2', d3', d4⟩ := cells5 (row_grown HC5.out hg6); obtain ⟨r0', r1', r2', r3', r4'⟩ := cells5 HA6.out; have fz := frz HA6.out; clear hg6)))
      refine ret2c (c := zc) rfl (by rfl) rfl (set5 HA6.out _ _ _ _ _) ?_
      exact ⟨rfl, grown_set (grown_set (grown_set (grown_set (grown_set HG6.out _ _ (by omega) _) _ _ (by omega) _) _ _ (by omega) _) _ _ (by omega) _) _ _ (by omega) _⟩
    · obtain rfl : v = (x : Int) := by simpa using hz
      clear hz
      go_enter Tryd.func14, Tryd.ntmps14
      go_wp2_with (first
        | (go_at_call 21; ((with_reducible refine (HF.out _).mono ?_); rintro e w1 ⟨rfl, rfl⟩))
        | (go_at_call 13; ((with_reducible refine (HM.out _).mono ?_); rintro e w5 ⟨rfl, hg5⟩; rw [HW3.out] at hg5; have HG5 := Lib.hid (grown_trans HG.out hg5); have HA5 := Lib.hid (row_grown HA.out hg5); have HC5 := Lib.hid (row_grown HC.out hg5); obtain ⟨d0, d1', d2', d3', d4⟩ := cells5 HC5.out; obtain ⟨r0', r1', r2', r3', r4'⟩ := cells5 HA5.out; have fz := frz HA5.out; clear hg5))
        | (go_at_call 18; ((with_reducible refine (HV.out _).mono ?_); rintro e w6 ⟨rfl, hg6⟩; have HG6 := Lib.hid (grown_trans HG5.out hg6); have HA6 := Lib.hid (row_grown HA5.out hg6); obtain ⟨d0, d1', d2', d3', d4⟩ := cells5 (row_grown HC5.out hg6); obtain ⟨r0', r1', r2', r3', r4'⟩ := cells5 HA6.out; have fz := frz HA6.out; clear hg6)))
      refine ret2c (c := ⟨op, (y1 : Int), (y2 : Int), (y3 : Int), 0⟩) rfl (by rfl) rfl (set5 HA6.out _ _ _ _ _) ?_
      exact ⟨rfl, grown_set (grown_set (grown_set (grown_set (grown_set HG6.out _ _ (by omega) _) _ _ (by omega) _) _ _ (by omega) _) _ _ (by omega) _) _ _ (by omega) _⟩
set_option maxHeartbeats 2000000 in
theorem rtake_2a (x op d1 d2 d3 y1 y2 y3 n0 n1 : Nat) (w : World) (D : Dg x op d1 d2 d3 y1 y2 y3 n0 n1) (hb : op < 64 ∧ y1 < 16 ∧ y2 < 16 ∧ y3 < 16 ∧ n0 < 4194304 ∧ n1 < 16384 ∧ x < 4294967296) (hf : rf op = 2) (hs : n1 < 8192) (M z : Bool) (v : Int) (hM : may ⟨op, (y1 : Int), (y2 : Int), 0, (n1 : Int)⟩ = M) (hv : M = true → wd ⟨op, (y1 : Int), (y2 : Int), 0, (n1 : Int)⟩ = v) (hz : z = decide (v = (x : Int))) :
    Calls Tryd.prog 14 #[.int .u32 (x : Int)] w fun e w' => e = .returned (.tuple #[.agg (ca (if M && z then ⟨op, (y1 : Int), (y2 : Int), 0, (n1 : Int)⟩ else zc)), .int .i64 (terr (M && z))]) ∧ w.grownBy w' none := by
  have HF : Hid (∀ w, _) := Lib.hid fun w => form_any op w
  rw [hf] at HF
  have HM : Hid (∀ w, _) := Lib.hid fun w => rmay_any ⟨op, (y1 : Int), (y2 : Int), 0, (n1 : Int)⟩ w (by show op < 256; omega)
  rw [hM] at HM
  have HW : Hid (M = true → ∀ w, _) := Lib.hid fun h w => rword_any ⟨op, (y1 : Int), (y2 : Int), 0, (n1 : Int)⟩ w (hM.trans h)
  obtain ⟨b1, b2, b3, b4, b5, b6, b7⟩ := hb
  obtain ⟨q26, wr, q22, q18, q14, r1, r2, r3, m22, m14⟩ := D
  obtain ⟨w3, hw3, hg3, hA3, hC3⟩ := twob w (.cells #[.int .u8 0, .int .i64 0, .int .i64 0, .int .i64 0, .int .i64 0] 27) (.cells #[.int .u8 (op : Int), .int .i64 (y1 : Int), .int .i64 (y2 : Int), .int .i64 0, .int .i64 (n1 : Int)] 27)
  have HW3 := Lib.hid hw3
  have HA := Lib.hid hA3
  have HC := Lib.hid hC3
  have HG := Lib.hid hg3
  have g8 : decide ((8192 : Int) ≤ (n1 : Int)) = false := decide_eq_false (by omega)
  clear hf hM hw3 hg3 hA3 hC3
  unfold ca at *
  cases M
  · clear HW hv hz
    go_enter Tryd.func14, Tryd.ntmps14
    go_wp2_with (first
      | (go_at_call 21; ((with_reducible refine (HF.out _).mono ?_); rintro e w1 ⟨rfl, rfl⟩))
      | (go_at_call 13; ((with_reducible refine (HM.out _).mono ?_); rintro e w5 ⟨rfl, hg5⟩; rw [HW3.out] at hg5; have HG5 := Lib.hid (grown_trans HG.out hg5); have HA5 := Lib.hid (row_grown HA.out hg5); have HC5 := Lib.hid (row_grown HC.out hg5); obtain ⟨d0, d1', d2', d3', d4⟩ := cells5 HC5.out; obtain ⟨r0', r1', r2', r3', r4'⟩ := cells5 HA5.out; have fz := frz HA5.out; clear hg5)))
    refine ret2c (c := zc) rfl (by rfl) rfl (set5 HA5.out _ _ _ _ _) ?_
    exact ⟨rfl, grown_set (grown_set (grown_set (grown_set (grown_set HG5.out _ _ (by omega) _) _ _ (by omega) _) _ _ (by omega) _) _ _ (by omega) _) _ _ (by omega) _⟩
  · have HV := Lib.hid (HW.out rfl)
    rw [hv rfl] at HV
    clear HW hv
    cases z
    · have hne : (v == (x : Int)) = false := by simpa using hz
      have hnn : (v != (x : Int)) = true := by simpa using hz
      clear hz
      go_enter Tryd.func14, Tryd.ntmps14
      go_wp2_with (first
        | (go_at_call 21; ((with_reducible refine (HF.out _).mono ?_); rintro e w1 ⟨rfl, rfl⟩))
        | (go_at_call 13; ((with_reducible refine (HM.out _).mono ?_); rintro e w5 ⟨rfl, hg5⟩; rw [HW3.out] at hg5; have HG5 := Lib.hid (grown_trans HG.out hg5); have HA5 := Lib.hid (row_grown HA.out hg5); have HC5 := Lib.hid (row_grown HC.out hg5); obtain ⟨d0, d1', d2', d3', d4⟩ := cells5 HC5.out; obtain ⟨r0', r1', r2', r3', r4'⟩ := cells5 HA5.out; have fz := frz HA5.out; clear hg5))
        | (go_at_call 18; ((with_reducible refine (HV.out _).mono ?_); rintro e w6 ⟨rfl, hg6⟩; have HG6 := Lib.hid (grown_trans HG5.out hg6); have HA6 := Lib.hid (row_grown HA5.out hg6); obtain ⟨d0, d1', d2', d3', d4⟩ := cells5 (row_grown HC5.out hg6); obtain ⟨r0', r1', r2', r3', r4'⟩ := cells5 HA6.out; have fz := frz HA6.out; clear hg6)))
      refine ret2c (c := zc) rfl (by rfl) rfl (set5 HA6.out _ _ _ _ _) ?_
      exact ⟨rfl, grown_set (grown_set (grown_set (grown_set (grown_set HG6.out _ _ (by omega) _) _ _ (by omega) _) _ _ (by omega) _) _ _ (by omega) _) _ _ (by omega) _⟩
    · obtain rfl : v = (x : Int) := by simpa using hz
      clear hz
      go_enter Tryd.func14, Tryd.ntmps14
      go_wp2_with (first
        | (go_at_call 21; ((with_reducible refine (HF.out _).mono ?_); rintro e w1 ⟨rfl, rfl⟩))
        | (go_at_call 13; ((with_reducible refine (HM.out _).mono ?_); rintro e w5 ⟨rfl, hg5⟩; rw [HW3.out] at hg5; have HG5 := Lib.hid (grown_trans HG.out hg5); have HA5 := Lib.hid (row_grown HA.out hg5); have HC5 := Lib.hid (row_grown HC.out hg5); obtain ⟨d0, d1', d2', d3', d4⟩ := cells5 HC5.out; obtain ⟨r0', r1', r2', r3', r4'⟩ := cells5 HA5.out; have fz := frz HA5.out; clear hg5))
        | (go_at_call 18; ((with_reducible refine (HV.out _).mono ?_); rintro e w6 ⟨rfl, hg6⟩; have HG6 := Lib.hid (grown_trans HG5.out hg6); have HA6 := Lib.hid (row_grown HA5.out hg6); obtain ⟨d0, d1', d2', d3', d4⟩ := cells5 (row_grown HC5.out hg6); obtain ⟨r0', r1', r2', r3', r4'⟩ := cells5 HA6.out; have fz := frz HA6.out; clear hg6)))
      refine ret2c (c := ⟨op, (y1 : Int), (y2 : Int), 0, (n1 : Int)⟩) rfl (by rfl) rfl (set5 HA6.out _ _ _ _ _) ?_
      exact ⟨rfl, grown_set (grown_set (grown_set (grown_set (grown_set HG6.out _ _ (by omega) _) _ _ (by omega) _) _ _ (by omega) _) _ _ (by omega) _) _ _ (by omega) _⟩
set_option maxHeartbeats 2000000 in
theorem rtake_2b (x op d1 d2 d3 y1 y2 y3 n0 n1 : Nat) (w : World) (D : Dg x op d1 d2 d3 y1 y2 y3 n0 n1) (hb : op < 64 ∧ y1 < 16 ∧ y2 < 16 ∧ y3 < 16 ∧ n0 < 4194304 ∧ n1 < 16384 ∧ x < 4294967296) (hf : rf op = 2) (hs : 8192 ≤ n1) (M z : Bool) (v : Int) (hM : may ⟨op, (y1 : Int), (y2 : Int), 0, ((n1 : Int) - 16384)⟩ = M) (hv : M = true → wd ⟨op, (y1 : Int), (y2 : Int), 0, ((n1 : Int) - 16384)⟩ = v) (hz : z = decide (v = (x : Int))) :
    Calls Tryd.prog 14 #[.int .u32 (x : Int)] w fun e w' => e = .returned (.tuple #[.agg (ca (if M && z then ⟨op, (y1 : Int), (y2 : Int), 0, ((n1 : Int) - 16384)⟩ else zc)), .int .i64 (terr (M && z))]) ∧ w.grownBy w' none := by
  have HF : Hid (∀ w, _) := Lib.hid fun w => form_any op w
  rw [hf] at HF
  have HM : Hid (∀ w, _) := Lib.hid fun w => rmay_any ⟨op, (y1 : Int), (y2 : Int), 0, ((n1 : Int) - 16384)⟩ w (by show op < 256; omega)
  rw [hM] at HM
  have HW : Hid (M = true → ∀ w, _) := Lib.hid fun h w => rword_any ⟨op, (y1 : Int), (y2 : Int), 0, ((n1 : Int) - 16384)⟩ w (hM.trans h)
  obtain ⟨b1, b2, b3, b4, b5, b6, b7⟩ := hb
  obtain ⟨q26, wr, q22, q18, q14, r1, r2, r3, m22, m14⟩ := D
  obtain ⟨w3, hw3, hg3, hA3, hC3⟩ := twob w (.cells #[.int .u8 0, .int .i64 0, .int .i64 0, .int .i64 0, .int .i64 0] 27) (.cells #[.int .u8 (op : Int), .int .i64 (y1 : Int), .int .i64 (y2 : Int), .int .i64 0, .int .i64 ((n1 : Int) - 16384)] 27)
  have HW3 := Lib.hid hw3
  have HA := Lib.hid hA3
  have HC := Lib.hid hC3
  have HG := Lib.hid hg3
  have g8 : decide ((8192 : Int) ≤ (n1 : Int)) = true := decide_eq_true (by omega)
  clear hf hM hw3 hg3 hA3 hC3
  unfold ca at *
  cases M
  · clear HW hv hz
    go_enter Tryd.func14, Tryd.ntmps14
    go_wp2_with (first
      | (go_at_call 21; ((with_reducible refine (HF.out _).mono ?_); rintro e w1 ⟨rfl, rfl⟩))
      | (go_at_call 13; ((with_reducible refine (HM.out _).mono ?_); rintro e w5 ⟨rfl, hg5⟩; rw [HW3.out] at hg5; have HG5 := Lib.hid (grown_trans HG.out hg5); have HA5 := Lib.hid (row_grown HA.out hg5); have HC5 := Lib.hid (row_grown HC.out hg5); obtain ⟨d0, d1', d2', d3', d4⟩ := cells5 HC5.out; obtain ⟨r0', r1', r2', r3', r4'⟩ := cells5 HA5.out; have fz := frz HA5.out; clear hg5)))
    refine ret2c (c := zc) rfl (by rfl) rfl (set5 HA5.out _ _ _ _ _) ?_
    exact ⟨rfl, grown_set (grown_set (grown_set (grown_set (grown_set HG5.out _ _ (by omega) _) _ _ (by omega) _) _ _ (by omega) _) _ _ (by omega) _) _ _ (by omega) _⟩
  · have HV := Lib.hid (HW.out rfl)
    rw [hv rfl] at HV
    clear HW hv
    cases z
    · have hne : (v == (x : Int)) = false := by simpa using hz
      have hnn : (v != (x : Int)) = true := by simpa using hz
      clear hz
      go_enter Tryd.func14, Tryd.ntmps14
      go_wp2_with (first
        | (go_at_call 21; ((with_reducible refine (HF.out _).mono ?_); rintro e w1 ⟨rfl, rfl⟩))
        | (go_at_call 13; ((with_reducible refine (HM.out _).mono ?_); rintro e w5 ⟨rfl, hg5⟩; rw [HW3.out] at hg5; have HG5 := Lib.hid (grown_trans HG.out hg5); have HA5 := Lib.hid (row_grown HA.out hg5); have HC5 := Lib.hid (row_grown HC.out hg5); obtain ⟨d0, d1', d2', d3', d4⟩ := cells5 HC5.out; obtain ⟨r0', r1', r2', r3', r4'⟩ := cells5 HA5.out; have fz := frz HA5.out; clear hg5))
        | (go_at_call 18; ((with_reducible refine (HV.out _).mono ?_); rintro e w6 ⟨rfl, hg6⟩; have HG6 := Lib.hid (grown_trans HG5.out hg6); have HA6 := Lib.hid (row_grown HA5.out hg6); obtain ⟨d0, d1', d2', d3', d4⟩ := cells5 (row_grown HC5.out hg6); obtain ⟨r0', r1', r2', r3', r4'⟩ := cells5 HA6.out; have fz := frz HA6.out; clear hg6)))
      refine ret2c (c := zc) rfl (by rfl) rfl (set5 HA6.out _ _ _ _ _) ?_
      exact ⟨rfl, grown_set (grown_set (grown_set (grown_set (grown_set HG6.out _ _ (by omega) _) _ _ (by omega) _) _ _ (by omega) _) _ _ (by omega) _) _ _ (by omega) _⟩
    · obtain rfl : v = (x : Int) := by simpa using hz
      clear hz
      go_enter Tryd.func14, Tryd.ntmps14
      go_wp2_with (first
        | (go_at_call 21; ((with_reducible refine (HF.out _).mono ?_); rintro e w1 ⟨rfl, rfl⟩))
        | (go_at_call 13; ((with_reducible refine (HM.out _).mono ?_); rintro e w5 ⟨rfl, hg5⟩; rw [HW3.out] at hg5; have HG5 := Lib.hid (grown_trans HG.out hg5); have HA5 := Lib.hid (row_grown HA.out hg5); have HC5 := Lib.hid (row_grown HC.out hg5); obtain ⟨d0, d1', d2', d3', d4⟩ := cells5 HC5.out; obtain ⟨r0', r1', r2', r3', r4'⟩ := cells5 HA5.out; have fz := frz HA5.out; clear hg5))
        | (go_at_call 18; ((with_reducible refine (HV.out _).mono ?_); rintro e w6 ⟨rfl, hg6⟩; have HG6 := Lib.hid (grown_trans HG5.out hg6); have HA6 := Lib.hid (row_grown HA5.out hg6); obtain ⟨d0, d1', d2', d3', d4⟩ := cells5 (row_grown HC5.out hg6); obtain ⟨r0', r1', r2', r3', r4'⟩ := cells5 HA6.out; have fz := frz HA6.out; clear hg6)))
      refine ret2c (c := ⟨op, (y1 : Int), (y2 : Int), 0, ((n1 : Int) - 16384)⟩) rfl (by rfl) rfl (set5 HA6.out _ _ _ _ _) ?_
      exact ⟨rfl, grown_set (grown_set (grown_set (grown_set (grown_set HG6.out _ _ (by omega) _) _ _ (by omega) _) _ _ (by omega) _) _ _ (by omega) _) _ _ (by omega) _⟩
set_option maxHeartbeats 2000000 in
theorem rtake_3a (x op d1 d2 d3 y1 y2 y3 n0 n1 : Nat) (w : World) (D : Dg x op d1 d2 d3 y1 y2 y3 n0 n1) (hb : op < 64 ∧ y1 < 16 ∧ y2 < 16 ∧ y3 < 16 ∧ n0 < 4194304 ∧ n1 < 16384 ∧ x < 4294967296) (hf : rf op = 3) (hs : n0 < 2097152) (M z : Bool) (v : Int) (hM : may ⟨op, (y1 : Int), 0, 0, (n0 : Int)⟩ = M) (hv : M = true → wd ⟨op, (y1 : Int), 0, 0, (n0 : Int)⟩ = v) (hz : z = decide (v = (x : Int))) :
    Calls Tryd.prog 14 #[.int .u32 (x : Int)] w fun e w' => e = .returned (.tuple #[.agg (ca (if M && z then ⟨op, (y1 : Int), 0, 0, (n0 : Int)⟩ else zc)), .int .i64 (terr (M && z))]) ∧ w.grownBy w' none := by
  have HF : Hid (∀ w, _) := Lib.hid fun w => form_any op w
  rw [hf] at HF
  have HM : Hid (∀ w, _) := Lib.hid fun w => rmay_any ⟨op, (y1 : Int), 0, 0, (n0 : Int)⟩ w (by show op < 256; omega)
  rw [hM] at HM
  have HW : Hid (M = true → ∀ w, _) := Lib.hid fun h w => rword_any ⟨op, (y1 : Int), 0, 0, (n0 : Int)⟩ w (hM.trans h)
  obtain ⟨b1, b2, b3, b4, b5, b6, b7⟩ := hb
  obtain ⟨q26, wr, q22, q18, q14, r1, r2, r3, m22, m14⟩ := D
  obtain ⟨w3, hw3, hg3, hA3, hC3⟩ := twob w (.cells #[.int .u8 0, .int .i64 0, .int .i64 0, .int .i64 0, .int .i64 0] 27) (.cells #[.int .u8 (op : Int), .int .i64 (y1 : Int), .int .i64 0, .int .i64 0, .int .i64 (n0 : Int)] 27)
  have HW3 := Lib.hid hw3
  have HA := Lib.hid hA3
  have HC := Lib.hid hC3
  have HG := Lib.hid hg3
  have g8 : decide ((2097152 : Int) ≤ (n0 : Int)) = false := decide_eq_false (by omega)
  clear hf hM hw3 hg3 hA3 hC3
  unfold ca at *
  cases M
  · clear HW hv hz
    go_enter Tryd.func14, Tryd.ntmps14
    go_wp2_with (first
      | (go_at_call 21; ((with_reducible refine (HF.out _).mono ?_); rintro e w1 ⟨rfl, rfl⟩))
      | (go_at_call 13; ((with_reducible refine (HM.out _).mono ?_); rintro e w5 ⟨rfl, hg5⟩; rw [HW3.out] at hg5; have HG5 := Lib.hid (grown_trans HG.out hg5); have HA5 := Lib.hid (row_grown HA.out hg5); have HC5 := Lib.hid (row_grown HC.out hg5); obtain ⟨d0, d1', d2', d3', d4⟩ := cells5 HC5.out; obtain ⟨r0', r1', r2', r3', r4'⟩ := cells5 HA5.out; have fz := frz HA5.out; clear hg5)))
    refine ret2c (c := zc) rfl (by rfl) rfl (set5 HA5.out _ _ _ _ _) ?_
    exact ⟨rfl, grown_set (grown_set (grown_set (grown_set (grown_set HG5.out _ _ (by omega) _) _ _ (by omega) _) _ _ (by omega) _) _ _ (by omega) _) _ _ (by omega) _⟩
  · have HV := Lib.hid (HW.out rfl)
    rw [hv rfl] at HV
    clear HW hv
    cases z
    · have hne : (v == (x : Int)) = false := by simpa using hz
      have hnn : (v != (x : Int)) = true := by simpa using hz
      clear hz
      go_enter Tryd.func14, Tryd.ntmps14
      go_wp2_with (first
        | (go_at_call 21; ((with_reducible refine (HF.out _).mono ?_); rintro e w1 ⟨rfl, rfl⟩))
        | (go_at_call 13; ((with_reducible refine (HM.out _).mono ?_); rintro e w5 ⟨rfl, hg5⟩; rw [HW3.out] at hg5; have HG5 := Lib.hid (grown_trans HG.out hg5); have HA5 := Lib.hid (row_grown HA.out hg5); have HC5 := Lib.hid (row_grown HC.out hg5); obtain ⟨d0, d1', d2', d3', d4⟩ := cells5 HC5.out; obtain ⟨r0', r1', r2', r3', r4'⟩ := cells5 HA5.out; have fz := frz HA5.out; clear hg5))
        | (go_at_call 18; ((with_reducible refine (HV.out _).mono ?_); rintro e w6 ⟨rfl, hg6⟩; have HG6 := Lib.hid (grown_trans HG5.out hg6); have HA6 := Lib.hid (row_grown HA5.out hg6); obtain ⟨d0, d1', d2', d3', d4⟩ := cells5 (row_grown HC5.out hg6); obtain ⟨r0', r1', r2', r3', r4'⟩ := cells5 HA6.out; have fz := frz HA6.out; clear hg6)))
      refine ret2c (c := zc) rfl (by rfl) rfl (set5 HA6.out _ _ _ _ _) ?_
      exact ⟨rfl, grown_set (grown_set (grown_set (grown_set (grown_set HG6.out _ _ (by omega) _) _ _ (by omega) _) _ _ (by omega) _) _ _ (by omega) _) _ _ (by omega) _⟩
    · obtain rfl : v = (x : Int) := by simpa using hz
      clear hz
      go_enter Tryd.func14, Tryd.ntmps14
      go_wp2_with (first
        | (go_at_call 21; ((with_reducible refine (HF.out _).mono ?_); rintro e w1 ⟨rfl, rfl⟩))
        | (go_at_call 13; ((with_reducible refine (HM.out _).mono ?_); rintro e w5 ⟨rfl, hg5⟩; rw [HW3.out] at hg5; have HG5 := Lib.hid (grown_trans HG.out hg5); have HA5 := Lib.hid (row_grown HA.out hg5); have HC5 := Lib.hid (row_grown HC.out hg5); obtain ⟨d0, d1', d2', d3', d4⟩ := cells5 HC5.out; obtain ⟨r0', r1', r2', r3', r4'⟩ := cells5 HA5.out; have fz := frz HA5.out; clear hg5))
        | (go_at_call 18; ((with_reducible refine (HV.out _).mono ?_); rintro e w6 ⟨rfl, hg6⟩; have HG6 := Lib.hid (grown_trans HG5.out hg6); have HA6 := Lib.hid (row_grown HA5.out hg6); obtain ⟨d0, d1', d2', d3', d4⟩ := cells5 (row_grown HC5.out hg6); obtain ⟨r0', r1', r2', r3', r4'⟩ := cells5 HA6.out; have fz := frz HA6.out; clear hg6)))
      refine ret2c (c := ⟨op, (y1 : Int), 0, 0, (n0 : Int)⟩) rfl (by rfl) rfl (set5 HA6.out _ _ _ _ _) ?_
      exact ⟨rfl, grown_set (grown_set (grown_set (grown_set (grown_set HG6.out _ _ (by omega) _) _ _ (by omega) _) _ _ (by omega) _) _ _ (by omega) _) _ _ (by omega) _⟩
set_option maxHeartbeats 2000000 in
theorem rtake_3b (x op d1 d2 d3 y1 y2 y3 n0 n1 : Nat) (w : World) (D : Dg x op d1 d2 d3 y1 y2 y3 n0 n1) (hb : op < 64 ∧ y1 < 16 ∧ y2 < 16 ∧ y3 < 16 ∧ n0 < 4194304 ∧ n1 < 16384 ∧ x < 4294967296) (hf : rf op = 3) (hs : 2097152 ≤ n0) (M z : Bool) (v : Int) (hM : may ⟨op, (y1 : Int), 0, 0, ((n0 : Int) - 4194304)⟩ = M) (hv : M = true → wd ⟨op, (y1 : Int), 0, 0, ((n0 : Int) - 4194304)⟩ = v) (hz : z = decide (v = (x : Int))) :
    Calls Tryd.prog 14 #[.int .u32 (x : Int)] w fun e w' => e = .returned (.tuple #[.agg (ca (if M && z then ⟨op, (y1 : Int), 0, 0, ((n0 : Int) - 4194304)⟩ else zc)), .int .i64 (terr (M && z))]) ∧ w.grownBy w' none := by
  have HF : Hid (∀ w, _) := Lib.hid fun w => form_any op w
  rw [hf] at HF
  have HM : Hid (∀ w, _) := Lib.hid fun w => rmay_any ⟨op, (y1 : Int), 0, 0, ((n0 : Int) - 4194304)⟩ w (by show op < 256; omega)
  rw [hM] at HM
  have HW : Hid (M = true → ∀ w, _) := Lib.hid fun h w => rword_any ⟨op, (y1 : Int), 0, 0, ((n0 : Int) - 4194304)⟩ w (hM.trans h)
  obtain ⟨b1, b2, b3, b4, b5, b6, b7⟩ := hb
  obtain ⟨q26, wr, q22, q18, q14, r1, r2, r3, m22, m14⟩ := D
  obtain ⟨w3, hw3, hg3, hA3, hC3⟩ := twob w (.cells #[.int .u8 0, .int .i64 0, .int .i64 0, .int .i64 0, .int .i64 0] 27) (.cells #[.int .u8 (op : Int), .int .i64 (y1 : Int), .int .i64 0, .int .i64 0, .int .i64 ((n0 : Int) - 4194304)] 27)
  have HW3 := Lib.hid hw3
  have HA := Lib.hid hA3
  have HC := Lib.hid hC3
  have HG := Lib.hid hg3
  have g8 : decide ((2097152 : Int) ≤ (n0 : Int)) = true := decide_eq_true (by omega)
  clear hf hM hw3 hg3 hA3 hC3
  unfold ca at *
  cases M
  · clear HW hv hz
    go_enter Tryd.func14, Tryd.ntmps14
    go_wp2_with (first
      | (go_at_call 21; ((with_reducible refine (HF.out _).mono ?_); rintro e w1 ⟨rfl, rfl⟩))
      | (go_at_call 13; ((with_reducible refine (HM.out _).mono ?_); rintro e w5 ⟨rfl, hg5⟩; rw [HW3.out] at hg5; have HG5 := Lib.hid (grown_trans HG.out hg5); have HA5 := Lib.hid (row_grown HA.out hg5); have HC5 := Lib.hid (row_grown HC.out hg5); obtain ⟨d0, d1', d2', d3', d4⟩ := cells5 HC5.out; obtain ⟨r0', r1', r2', r3', r4'⟩ := cells5 HA5.out; have fz := frz HA5.out; clear hg5)))
    refine ret2c (c := zc) rfl (by rfl) rfl (set5 HA5.out _ _ _ _ _) ?_
    exact ⟨rfl, grown_set (grown_set (grown_set (grown_set (grown_set HG5.out _ _ (by omega) _) _ _ (by omega) _) _ _ (by omega) _) _ _ (by omega) _) _ _ (by omega) _⟩
  · have HV := Lib.hid (HW.out rfl)
    rw [hv rfl] at HV
    clear HW hv
    cases z
    · have hne : (v == (x : Int)) = false := by simpa using hz
      have hnn : (v != (x : Int)) = true := by simpa using hz
      clear hz
      go_enter Tryd.func14, Tryd.ntmps14
      go_wp2_with (first
        | (go_at_call 21; ((with_reducible refine (HF.out _).mono ?_); rintro e w1 ⟨rfl, rfl⟩))
        | (go_at_call 13; ((with_reducible refine (HM.out _).mono ?_); rintro e w5 ⟨rfl, hg5⟩; rw [HW3.out] at hg5; have HG5 := Lib.hid (grown_trans HG.out hg5); have HA5 := Lib.hid (row_grown HA.out hg5); have HC5 := Lib.hid (row_grown HC.out hg5); obtain ⟨d0, d1', d2', d3', d4⟩ := cells5 HC5.out; obtain ⟨r0', r1', r2', r3', r4'⟩ := cells5 HA5.out; have fz := frz HA5.out; clear hg5))
        | (go_at_call 18; ((with_reducible refine (HV.out _).mono ?_); rintro e w6 ⟨rfl, hg6⟩; have HG6 := Lib.hid (grown_trans HG5.out hg6); have HA6 := Lib.hid (row_grown HA5.out hg6); obtain ⟨d0, d1', d2', d3', d4⟩ := cells5 (row_grown HC5.out hg6); obtain ⟨r0', r1', r2', r3', r4'⟩ := cells5 HA6.out; have fz := frz HA6.out; clear hg6)))
      refine ret2c (c := zc) rfl (by rfl) rfl (set5 HA6.out _ _ _ _ _) ?_
      exact ⟨rfl, grown_set (grown_set (grown_set (grown_set (grown_set HG6.out _ _ (by omega) _) _ _ (by omega) _) _ _ (by omega) _) _ _ (by omega) _) _ _ (by omega) _⟩
    · obtain rfl : v = (x : Int) := by simpa using hz
      clear hz
      go_enter Tryd.func14, Tryd.ntmps14
      go_wp2_with (first
        | (go_at_call 21; ((with_reducible refine (HF.out _).mono ?_); rintro e w1 ⟨rfl, rfl⟩))
        | (go_at_call 13; ((with_reducible refine (HM.out _).mono ?_); rintro e w5 ⟨rfl, hg5⟩; rw [HW3.out] at hg5; have HG5 := Lib.hid (grown_trans HG.out hg5); have HA5 := Lib.hid (row_grown HA.out hg5); have HC5 := Lib.hid (row_grown HC.out hg5); obtain ⟨d0, d1', d2', d3', d4⟩ := cells5 HC5.out; obtain ⟨r0', r1', r2', r3', r4'⟩ := cells5 HA5.out; have fz := frz HA5.out; clear hg5))
        | (go_at_call 18; ((with_reducible refine (HV.out _).mono ?_); rintro e w6 ⟨rfl, hg6⟩; have HG6 := Lib.hid (grown_trans HG5.out hg6); have HA6 := Lib.hid (row_grown HA5.out hg6); obtain ⟨d0, d1', d2', d3', d4⟩ := cells5 (row_grown HC5.out hg6); obtain ⟨r0', r1', r2', r3', r4'⟩ := cells5 HA6.out; have fz := frz HA6.out; clear hg6)))
      refine ret2c (c := ⟨op, (y1 : Int), 0, 0, ((n0 : Int) - 4194304)⟩) rfl (by rfl) rfl (set5 HA6.out _ _ _ _ _) ?_
      exact ⟨rfl, grown_set (grown_set (grown_set (grown_set (grown_set HG6.out _ _ (by omega) _) _ _ (by omega) _) _ _ (by omega) _) _ _ (by omega) _) _ _ (by omega) _⟩
set_option maxHeartbeats 2000000 in
theorem rtake_4a (x op d1 d2 d3 y1 y2 y3 n0 n1 : Nat) (w : World) (D : Dg x op d1 d2 d3 y1 y2 y3 n0 n1) (hb : op < 64 ∧ y1 < 16 ∧ y2 < 16 ∧ y3 < 16 ∧ n0 < 4194304 ∧ n1 < 16384 ∧ x < 4294967296) (hf : rf op = 4) (hs : n0 < 2097152) (M z : Bool) (v : Int) (hM : may ⟨op, 0, 0, 0, (n0 : Int)⟩ = M) (hv : M = true → wd ⟨op, 0, 0, 0, (n0 : Int)⟩ = v) (hz : z = decide (v = (x : Int))) :
    Calls Tryd.prog 14 #[.int .u32 (x : Int)] w fun e w' => e = .returned (.tuple #[.agg (ca (if M && z then ⟨op, 0, 0, 0, (n0 : Int)⟩ else zc)), .int .i64 (terr (M && z))]) ∧ w.grownBy w' none := by
  have HF : Hid (∀ w, _) := Lib.hid fun w => form_any op w
  rw [hf] at HF
  have HM : Hid (∀ w, _) := Lib.hid fun w => rmay_any ⟨op, 0, 0, 0, (n0 : Int)⟩ w (by show op < 256; omega)
  rw [hM] at HM
  have HW : Hid (M = true → ∀ w, _) := Lib.hid fun h w => rword_any ⟨op, 0, 0, 0, (n0 : Int)⟩ w (hM.trans h)
  obtain ⟨b1, b2, b3, b4, b5, b6, b7⟩ := hb
  obtain ⟨q26, wr, q22, q18, q14, r1, r2, r3, m22, m14⟩ := D
  obtain ⟨w3, hw3, hg3, hA3, hC3⟩ := twob w (.cells #[.int .u8 0, .int .i64 0, .int .i64 0, .int .i64 0, .int .i64 0] 27) (.cells #[.int .u8 (op : Int), .int .i64 0, .int .i64 0, .int .i64 0, .int .i64 (n0 : Int)] 27)
  have HW3 := Lib.hid hw3
  have HA := Lib.hid hA3
  have HC := Lib.hid hC3
  have HG := Lib.hid hg3
  have g8 : decide ((2097152 : Int) ≤ (n0 : Int)) = false := decide_eq_false (by omega)
  clear hf hM hw3 hg3 hA3 hC3
  unfold ca at *
  cases M
  · clear HW hv hz
    go_enter Tryd.func14, Tryd.ntmps14
    go_wp2_with (first
      | (go_at_call 21; ((with_reducible refine (HF.out _).mono ?_); rintro e w1 ⟨rfl, rfl⟩))
      | (go_at_call 13; ((with_reducible refine (HM.out _).mono ?_); rintro e w5 ⟨rfl, hg5⟩; rw [HW3.out] at hg5; have HG5 := Lib.hid (grown_trans HG.out hg5); have HA5 := Lib.hid (row_grown HA.out hg5); have HC5 := Lib.hid (row_grown HC.out hg5); obtain ⟨d0, d1', d2', d3', d4⟩ := cells5 HC5.out; obtain ⟨r0', r1', r2', r3', r4'⟩ := cells5 HA5.out; have fz := frz HA5.out; clear hg5)))
    refine ret2c (c := zc) rfl (by rfl) rfl (set5 HA5.out _ _ _ _ _) ?_
    exact ⟨rfl, grown_set (grown_set (grown_set (grown_set (grown_set HG5.out _ _ (by omega) _) _ _ (by omega) _) _ _ (by omega) _) _ _ (by omega) _) _ _ (by omega) _⟩
  · have HV := Lib.hid (HW.out rfl)
    rw [hv rfl] at HV
    clear HW hv
    cases z
    · have hne : (v == (x : Int)) = false := by simpa using hz
      have hnn : (v != (x : Int)) = true := by simpa using hz
      clear hz
      go_enter Tryd.func14, Tryd.ntmps14
      go_wp2_with (first
        | (go_at_call 21; ((with_reducible refine (HF.out _).mono ?_); rintro e w1 ⟨rfl, rfl⟩))
        | (go_at_call 13; ((with_reducible refine (HM.out _).mono ?_); rintro e w5 ⟨rfl, hg5⟩; rw [HW3.out] at hg5; have HG5 := Lib.hid (grown_trans HG.out hg5); have HA5 := Lib.hid (row_grown HA.out hg5); have HC5 := Lib.hid (row_grown HC.out hg5); obtain ⟨d0, d1', d2', d3', d4⟩ := cells5 HC5.out; obtain ⟨r0', r1', r2', r3', r4'⟩ := cells5 HA5.out; have fz := frz HA5.out; clear hg5))
        | (go_at_call 18; ((with_reducible refine (HV.out _).mono ?_); rintro e w6 ⟨rfl, hg6⟩; have HG6 := Lib.hid (grown_trans HG5.out hg6); have HA6 := Lib.hid (row_grown HA5.out hg6); obtain ⟨d0, d1', d2', d3', d4⟩ := cells5 (row_grown HC5.out hg6); obtain ⟨r0', r1', r2', r3', r4'⟩ := cells5 HA6.out; have fz := frz HA6.out; clear hg6)))
      refine ret2c (c := zc) rfl (by rfl) rfl (set5 HA6.out _ _ _ _ _) ?_
      exact ⟨rfl, grown_set (grown_set (grown_set (grown_set (grown_set HG6.out _ _ (by omega) _) _ _ (by omega) _) _ _ (by omega) _) _ _ (by omega) _) _ _ (by omega) _⟩
    · obtain rfl : v = (x : Int) := by simpa using hz
      clear hz
      go_enter Tryd.func14, Tryd.ntmps14
      go_wp2_with (first
        | (go_at_call 21; ((with_reducible refine (HF.out _).mono ?_); rintro e w1 ⟨rfl, rfl⟩))
        | (go_at_call 13; ((with_reducible refine (HM.out _).mono ?_); rintro e w5 ⟨rfl, hg5⟩; rw [HW3.out] at hg5; have HG5 := Lib.hid (grown_trans HG.out hg5); have HA5 := Lib.hid (row_grown HA.out hg5); have HC5 := Lib.hid (row_grown HC.out hg5); obtain ⟨d0, d1', d2', d3', d4⟩ := cells5 HC5.out; obtain ⟨r0', r1', r2', r3', r4'⟩ := cells5 HA5.out; have fz := frz HA5.out; clear hg5))
        | (go_at_call 18; ((with_reducible refine (HV.out _).mono ?_); rintro e w6 ⟨rfl, hg6⟩; have HG6 := Lib.hid (grown_trans HG5.out hg6); have HA6 := Lib.hid (row_grown HA5.out hg6); obtain ⟨d0, d1', d2', d3', d4⟩ := cells5 (row_grown HC5.out hg6); obtain ⟨r0', r1', r2', r3', r4'⟩ := cells5 HA6.out; have fz := frz HA6.out; clear hg6)))
      refine ret2c (c := ⟨op, 0, 0, 0, (n0 : Int)⟩) rfl (by rfl) rfl (set5 HA6.out _ _ _ _ _) ?_
      exact ⟨rfl, grown_set (grown_set (grown_set (grown_set (grown_set HG6.out _ _ (by omega) _) _ _ (by omega) _) _ _ (by omega) _) _ _ (by omega) _) _ _ (by omega) _⟩
set_option maxHeartbeats 2000000 in
theorem rtake_4b (x op d1 d2 d3 y1 y2 y3 n0 n1 : Nat) (w : World) (D : Dg x op d1 d2 d3 y1 y2 y3 n0 n1) (hb : op < 64 ∧ y1 < 16 ∧ y2 < 16 ∧ y3 < 16 ∧ n0 < 4194304 ∧ n1 < 16384 ∧ x < 4294967296) (hf : rf op = 4) (hs : 2097152 ≤ n0) (M z : Bool) (v : Int) (hM : may ⟨op, 0, 0, 0, ((n0 : Int) - 4194304)⟩ = M) (hv : M = true → wd ⟨op, 0, 0, 0, ((n0 : Int) - 4194304)⟩ = v) (hz : z = decide (v = (x : Int))) :
    Calls Tryd.prog 14 #[.int .u32 (x : Int)] w fun e w' => e = .returned (.tuple #[.agg (ca (if M && z then ⟨op, 0, 0, 0, ((n0 : Int) - 4194304)⟩ else zc)), .int .i64 (terr (M && z))]) ∧ w.grownBy w' none := by
  have HF : Hid (∀ w, _) := Lib.hid fun w => form_any op w
  rw [hf] at HF
  have HM : Hid (∀ w, _) := Lib.hid fun w => rmay_any ⟨op, 0, 0, 0, ((n0 : Int) - 4194304)⟩ w (by show op < 256; omega)
  rw [hM] at HM
  have HW : Hid (M = true → ∀ w, _) := Lib.hid fun h w => rword_any ⟨op, 0, 0, 0, ((n0 : Int) - 4194304)⟩ w (hM.trans h)
  obtain ⟨b1, b2, b3, b4, b5, b6, b7⟩ := hb
  obtain ⟨q26, wr, q22, q18, q14, r1, r2, r3, m22, m14⟩ := D
  obtain ⟨w3, hw3, hg3, hA3, hC3⟩ := twob w (.cells #[.int .u8 0, .int .i64 0, .int .i64 0, .int .i64 0, .int .i64 0] 27) (.cells #[.int .u8 (op : Int), .int .i64 0, .int .i64 0, .int .i64 0, .int .i64 ((n0 : Int) - 4194304)] 27)
  have HW3 := Lib.hid hw3
  have HA := Lib.hid hA3
  have HC := Lib.hid hC3
  have HG := Lib.hid hg3
  have g8 : decide ((2097152 : Int) ≤ (n0 : Int)) = true := decide_eq_true (by omega)
  clear hf hM hw3 hg3 hA3 hC3
  unfold ca at *
  cases M
  · clear HW hv hz
    go_enter Tryd.func14, Tryd.ntmps14
    go_wp2_with (first
      | (go_at_call 21; ((with_reducible refine (HF.out _).mono ?_); rintro e w1 ⟨rfl, rfl⟩))
      | (go_at_call 13; ((with_reducible refine (HM.out _).mono ?_); rintro e w5 ⟨rfl, hg5⟩; rw [HW3.out] at hg5; have HG5 := Lib.hid (grown_trans HG.out hg5); have HA5 := Lib.hid (row_grown HA.out hg5); have HC5 := Lib.hid (row_grown HC.out hg5); obtain ⟨d0, d1', d2', d3', d4⟩ := cells5 HC5.out; obtain ⟨r0', r1', r2', r3', r4'⟩ := cells5 HA5.out; have fz := frz HA5.out; clear hg5)))
    refine ret2c (c := zc) rfl (by rfl) rfl (set5 HA5.out _ _ _ _ _) ?_
    exact ⟨rfl, grown_set (grown_set (grown_set (grown_set (grown_set HG5.out _ _ (by omega) _) _ _ (by omega) _) _ _ (by omega) _) _ _ (by omega) _) _ _ (by omega) _⟩
  · have HV := Lib.hid (HW.out rfl)
    rw [hv rfl] at HV
    clear HW hv
    cases z
    · have hne : (v == (x : Int)) = false := by simpa using hz
      have hnn : (v != (x : Int)) = true := by simpa using hz
      clear hz
      go_enter Tryd.func14, Tryd.ntmps14
      go_wp2_with (first
        | (go_at_call 21; ((with_reducible refine (HF.out _).mono ?_); rintro e w1 ⟨rfl, rfl⟩))
        | (go_at_call 13; ((with_reducible refine (HM.out _).mono ?_); rintro e w5 ⟨rfl, hg5⟩; rw [HW3.out] at hg5; have HG5 := Lib.hid (grown_trans HG.out hg5); have HA5 := Lib.hid (row_grown HA.out hg5); have HC5 := Lib.hid (row_grown HC.out hg5); obtain ⟨d0, d1', d2', d3', d4⟩ := cells5 HC5.out; obtain ⟨r0', r1', r2', r3', r4'⟩ := cells5 HA5.out; have fz := frz HA5.out; clear hg5))
        | (go_at_call 18; ((with_reducible refine (HV.out _).mono ?_); rintro e w6 ⟨rfl, hg6⟩; have HG6 := Lib.hid (grown_trans HG5.out hg6); have HA6 := Lib.hid (row_grown HA5.out hg6); obtain ⟨d0, d1', d2', d3', d4⟩ := cells5 (row_grown HC5.out hg6); obtain ⟨r0', r1', r2', r3', r4'⟩ := cells5 HA6.out; have fz := frz HA6.out; clear hg6)))
      refine ret2c (c := zc) rfl (by rfl) rfl (set5 HA6.out _ _ _ _ _) ?_
      exact ⟨rfl, grown_set (grown_set (grown_set (grown_set (grown_set HG6.out _ _ (by omega) _) _ _ (by omega) _) _ _ (by omega) _) _ _ (by omega) _) _ _ (by omega) _⟩
    · obtain rfl : v = (x : Int) := by simpa using hz
      clear hz
      go_enter Tryd.func14, Tryd.ntmps14
      go_wp2_with (first
        | (go_at_call 21; ((with_reducible refine (HF.out _).mono ?_); rintro e w1 ⟨rfl, rfl⟩))
        | (go_at_call 13; ((with_reducible refine (HM.out _).mono ?_); rintro e w5 ⟨rfl, hg5⟩; rw [HW3.out] at hg5; have HG5 := Lib.hid (grown_trans HG.out hg5); have HA5 := Lib.hid (row_grown HA.out hg5); have HC5 := Lib.hid (row_grown HC.out hg5); obtain ⟨d0, d1', d2', d3', d4⟩ := cells5 HC5.out; obtain ⟨r0', r1', r2', r3', r4'⟩ := cells5 HA5.out; have fz := frz HA5.out; clear hg5))
        | (go_at_call 18; ((with_reducible refine (HV.out _).mono ?_); rintro e w6 ⟨rfl, hg6⟩; have HG6 := Lib.hid (grown_trans HG5.out hg6); have HA6 := Lib.hid (row_grown HA5.out hg6); obtain ⟨d0, d1', d2', d3', d4⟩ := cells5 (row_grown HC5.out hg6); obtain ⟨r0', r1', r2', r3', r4'⟩ := cells5 HA6.out; have fz := frz HA6.out; clear hg6)))
      refine ret2c (c := ⟨op, 0, 0, 0, ((n0 : Int) - 4194304)⟩) rfl (by rfl) rfl (set5 HA6.out _ _ _ _ _) ?_
      exact ⟨rfl, grown_set (grown_set (grown_set (grown_set (grown_set HG6.out _ _ (by omega) _) _ _ (by omega) _) _ _ (by omega) _) _ _ (by omega) _) _ _ (by omega) _⟩
set_option maxHeartbeats 2000000 in
theorem rtake_5 (x op d1 d2 d3 y1 y2 y3 n0 n1 : Nat) (w : World) (D : Dg x op d1 d2 d3 y1 y2 y3 n0 n1) (hb : op < 64 ∧ y1 < 16 ∧ y2 < 16 ∧ y3 < 16 ∧ n0 < 4194304 ∧ n1 < 16384 ∧ x < 4294967296) (hf : rf op = 5) (M z : Bool) (v : Int) (hM : may ⟨op, 0, 0, 0, (n0 : Int)⟩ = M) (hv : M = true → wd ⟨op, 0, 0, 0, (n0 : Int)⟩ = v) (hz : z = decide (v = (x : Int))) :
    Calls Tryd.prog 14 #[.int .u32 (x : Int)] w fun e w' => e = .returned (.tuple #[.agg (ca (if M && z then ⟨op, 0, 0, 0, (n0 : Int)⟩ else zc)), .int .i64 (terr (M && z))]) ∧ w.grownBy w' none := by
  have HF : Hid (∀ w, _) := Lib.hid fun w => form_any op w
  rw [hf] at HF
  have HM : Hid (∀ w, _) := Lib.hid fun w => rmay_any ⟨op, 0, 0, 0, (n0 : Int)⟩ w (by show op < 256; omega)
  rw [hM] at HM
  have HW : Hid (M = true → ∀ w, _) := Lib.hid fun h w => rword_any ⟨op, 0, 0, 0, (n0 : Int)⟩ w (hM.trans h)
  obtain ⟨b1, b2, b3, b4, b5, b6, b7⟩ := hb
  obtain ⟨q26, wr, q22, q18, q14, r1, r2, r3, m22, m14⟩ := D
  obtain ⟨w3, hw3, hg3, hA3, hC3⟩ := twob w (.cells #[.int .u8 0, .int .i64 0, .int .i64 0, .int .i64 0, .int .i64 0] 27) (.cells #[.int .u8 (op : Int), .int .i64 0, .int .i64 0, .int .i64 0, .int .i64 (n0 : Int)] 27)
  have HW3 := Lib.hid hw3
  have HA := Lib.hid hA3
  have HC := Lib.hid hC3
  have HG := Lib.hid hg3
  clear hf hM hw3 hg3 hA3 hC3
  unfold ca at *
  cases M
  · clear HW hv hz
    go_enter Tryd.func14, Tryd.ntmps14
    go_wp2_with (first
      | (go_at_call 21; ((with_reducible refine (HF.out _).mono ?_); rintro e w1 ⟨rfl, rfl⟩))
      | (go_at_call 13; ((with_reducible refine (HM.out _).mono ?_); rintro e w5 ⟨rfl, hg5⟩; rw [HW3.out] at hg5; have HG5 := Lib.hid (grown_trans HG.out hg5); have HA5 := Lib.hid (row_grown HA.out hg5); have HC5 := Lib.hid (row_grown HC.out hg5); obtain ⟨d0, d1', d2', d3', d4⟩ := cells5 HC5.out; obtain ⟨r0', r1', r2', r3', r4'⟩ := cells5 HA5.out; have fz := frz HA5.out; clear hg5)))
    refine ret2c (c := zc) rfl (by rfl) rfl (set5 HA5.out _ _ _ _ _) ?_
    exact ⟨rfl, grown_set (grown_set (grown_set (grown_set (grown_set HG5.out _ _ (by omega) _) _ _ (by omega) _) _ _ (by omega) _) _ _ (by omega) _) _ _ (by omega) _⟩
  · have HV := Lib.hid (HW.out rfl)
    rw [hv rfl] at HV
    clear HW hv
    cases z
    · have hne : (v == (x : Int)) = false := by simpa using hz
      have hnn : (v != (x : Int)) = true := by simpa using hz
      clear hz
      go_enter Tryd.func14, Tryd.ntmps14
      go_wp2_with (first
        | (go_at_call 21; ((with_reducible refine (HF.out _).mono ?_); rintro e w1 ⟨rfl, rfl⟩))
        | (go_at_call 13; ((with_reducible refine (HM.out _).mono ?_); rintro e w5 ⟨rfl, hg5⟩; rw [HW3.out] at hg5; have HG5 := Lib.hid (grown_trans HG.out hg5); have HA5 := Lib.hid (row_grown HA.out hg5); have HC5 := Lib.hid (row_grown HC.out hg5); obtain ⟨d0, d1', d2', d3', d4⟩ := cells5 HC5.out; obtain ⟨r0', r1', r2', r3', r4'⟩ := cells5 HA5.out; have fz := frz HA5.out; clear hg5))
        | (go_at_call 18; ((with_reducible refine (HV.out _).mono ?_); rintro e w6 ⟨rfl, hg6⟩; have HG6 := Lib.hid (grown_trans HG5.out hg6); have HA6 := Lib.hid (row_grown HA5.out hg6); obtain ⟨d0, d1', d2', d3', d4⟩ := cells5 (row_grown HC5.out hg6); obtain ⟨r0', r1', r2', r3', r4'⟩ := cells5 HA6.out; have fz := frz HA6.out; clear hg6)))
      refine ret2c (c := zc) rfl (by rfl) rfl (set5 HA6.out _ _ _ _ _) ?_
      exact ⟨rfl, grown_set (grown_set (grown_set (grown_set (grown_set HG6.out _ _ (by omega) _) _ _ (by omega) _) _ _ (by omega) _) _ _ (by omega) _) _ _ (by omega) _⟩
    · obtain rfl : v = (x : Int) := by simpa using hz
      clear hz
      go_enter Tryd.func14, Tryd.ntmps14
      go_wp2_with (first
        | (go_at_call 21; ((with_reducible refine (HF.out _).mono ?_); rintro e w1 ⟨rfl, rfl⟩))
        | (go_at_call 13; ((with_reducible refine (HM.out _).mono ?_); rintro e w5 ⟨rfl, hg5⟩; rw [HW3.out] at hg5; have HG5 := Lib.hid (grown_trans HG.out hg5); have HA5 := Lib.hid (row_grown HA.out hg5); have HC5 := Lib.hid (row_grown HC.out hg5); obtain ⟨d0, d1', d2', d3', d4⟩ := cells5 HC5.out; obtain ⟨r0', r1', r2', r3', r4'⟩ := cells5 HA5.out; have fz := frz HA5.out; clear hg5))
        | (go_at_call 18; ((with_reducible refine (HV.out _).mono ?_); rintro e w6 ⟨rfl, hg6⟩; have HG6 := Lib.hid (grown_trans HG5.out hg6); have HA6 := Lib.hid (row_grown HA5.out hg6); obtain ⟨d0, d1', d2', d3', d4⟩ := cells5 (row_grown HC5.out hg6); obtain ⟨r0', r1', r2', r3', r4'⟩ := cells5 HA6.out; have fz := frz HA6.out; clear hg6)))
      refine ret2c (c := ⟨op, 0, 0, 0, (n0 : Int)⟩) rfl (by rfl) rfl (set5 HA6.out _ _ _ _ _) ?_
      exact ⟨rfl, grown_set (grown_set (grown_set (grown_set (grown_set HG6.out _ _ (by omega) _) _ _ (by omega) _) _ _ (by omega) _) _ _ (by omega) _) _ _ (by omega) _⟩
set_option maxHeartbeats 2000000 in
theorem rtake_6 (x op d1 d2 d3 y1 y2 y3 n0 n1 : Nat) (w : World) (D : Dg x op d1 d2 d3 y1 y2 y3 n0 n1) (hb : op < 64 ∧ y1 < 16 ∧ y2 < 16 ∧ y3 < 16 ∧ n0 < 4194304 ∧ n1 < 16384 ∧ x < 4294967296) (hf : rf op = 6) (M z : Bool) (v : Int) (hM : may ⟨op, (y1 : Int), 0, 0, 0⟩ = M) (hv : M = true → wd ⟨op, (y1 : Int), 0, 0, 0⟩ = v) (hz : z = decide (v = (x : Int))) :
    Calls Tryd.prog 14 #[.int .u32 (x : Int)] w fun e w' => e = .returned (.tuple #[.agg (ca (if M && z then ⟨op, (y1 : Int), 0, 0, 0⟩ else zc)), .int .i64 (terr (M && z))]) ∧ w.grownBy w' none := by
  have HF : Hid (∀ w, _) := Lib.hid fun w => form_any op w
  rw [hf] at HF
  have HM : Hid (∀ w, _) := Lib.hid fun w => rmay_any ⟨op, (y1 : Int), 0, 0, 0⟩ w (by show op < 256; omega)
  rw [hM] at HM
  have HW : Hid (M = true → ∀ w, _) := Lib.hid fun h w => rword_any ⟨op, (y1 : Int), 0, 0, 0⟩ w (hM.trans h)
  obtain ⟨b1, b2, b3, b4, b5, b6, b7⟩ := hb
  obtain ⟨q26, wr, q22, q18, q14, r1, r2, r3, m22, m14⟩ := D
  obtain ⟨w3, hw3, hg3, hA3, hC3⟩ := twob w (.cells #[.int .u8 0, .int .i64 0, .int .i64 0, .int .i64 0, .int .i64 0] 27) (.cells #[.int .u8 (op : Int), .int .i64 (y1 : Int), .int .i64 0, .int .i64 0, .int .i64 0] 27)
  have HW3 := Lib.hid hw3
  have HA := Lib.hid hA3
  have HC := Lib.hid hC3
  have HG := Lib.hid hg3
  clear hf hM hw3 hg3 hA3 hC3
  unfold ca at *
  cases M
  · clear HW hv hz
    go_enter Tryd.func14, Tryd.ntmps14
    go_wp2_with (first
      | (go_at_call 21; ((with_reducible refine (HF.out _).mono ?_); rintro e w1 ⟨rfl, rfl⟩))
      | (go_at_call 13; ((with_reducible refine (HM.out _).mono ?_); rintro e w5 ⟨rfl, hg5⟩; rw [HW3.out] at hg5; have HG5 := Lib.hid (grown_trans HG.out hg5); have HA5 := Lib.hid (row_grown HA.out hg5); have HC5 := Lib.hid (row_grown HC.out hg5); obtain ⟨d0, d1', d2', d3', d4⟩ := cells5 HC5.out; obtain ⟨r0', r1', r2', r3', r4'⟩ := cells5 HA5.out; have fz := frz HA5.out; clear hg5)))
    refine ret2c (c := zc) rfl (by rfl) rfl (set5 HA5.out _ _ _ _ _) ?_
    exact ⟨rfl, grown_set (grown_set (grown_set (grown_set (grown_set HG5.out _ _ (by omega) _) _ _ (by omega) _) _ _ (by omega) _) _ _ (by omega) _) _ _ (by omega) _⟩
  · have HV := Lib.hid (HW.out rfl)
    rw [hv rfl] at HV
    clear HW hv
    cases z
    · have hne : (v == (x : Int)) = false := by simpa using hz
      have hnn : (v != (x : Int)) = true := by simpa using hz
      clear hz
      go_enter Tryd.func14, Tryd.ntmps14
      go_wp2_with (first
        | (go_at_call 21; ((with_reducible refine (HF.out _).mono ?_); rintro e w1 ⟨rfl, rfl⟩))
        | (go_at_call 13; ((with_reducible refine (HM.out _).mono ?_); rintro e w5 ⟨rfl, hg5⟩; rw [HW3.out] at hg5; have HG5 := Lib.hid (grown_trans HG.out hg5); have HA5 := Lib.hid (row_grown HA.out hg5); have HC5 := Lib.hid (row_grown HC.out hg5); obtain ⟨d0, d1', d2', d3', d4⟩ := cells5 HC5.out; obtain ⟨r0', r1', r2', r3', r4'⟩ := cells5 HA5.out; have fz := frz HA5.out; clear hg5))
        | (go_at_call 18; ((with_reducible refine (HV.out _).mono ?_); rintro e w6 ⟨rfl, hg6⟩; have HG6 := Lib.hid (grown_trans HG5.out hg6); have HA6 := Lib.hid (row_grown HA5.out hg6); obtain ⟨d0, d1', d2', d3', d4⟩ := cells5 (row_grown HC5.out hg6); obtain ⟨r0', r1', r2', r3', r4'⟩ := cells5 HA6.out; have fz := frz HA6.out; clear hg6)))
      refine ret2c (c := zc) rfl (by rfl) rfl (set5 HA6.out _ _ _ _ _) ?_
      exact ⟨rfl, grown_set (grown_set (grown_set (grown_set (grown_set HG6.out _ _ (by omega) _) _ _ (by omega) _) _ _ (by omega) _) _ _ (by omega) _) _ _ (by omega) _⟩
    · obtain rfl : v = (x : Int) := by simpa using hz
      clear hz
      go_enter Tryd.func14, Tryd.ntmps14
      go_wp2_with (first
        | (go_at_call 21; ((with_reducible refine (HF.out _).mono ?_); rintro e w1 ⟨rfl, rfl⟩))
        | (go_at_call 13; ((with_reducible refine (HM.out _).mono ?_); rintro e w5 ⟨rfl, hg5⟩; rw [HW3.out] at hg5; have HG5 := Lib.hid (grown_trans HG.out hg5); have HA5 := Lib.hid (row_grown HA.out hg5); have HC5 := Lib.hid (row_grown HC.out hg5); obtain ⟨d0, d1', d2', d3', d4⟩ := cells5 HC5.out; obtain ⟨r0', r1', r2', r3', r4'⟩ := cells5 HA5.out; have fz := frz HA5.out; clear hg5))
        | (go_at_call 18; ((with_reducible refine (HV.out _).mono ?_); rintro e w6 ⟨rfl, hg6⟩; have HG6 := Lib.hid (grown_trans HG5.out hg6); have HA6 := Lib.hid (row_grown HA5.out hg6); obtain ⟨d0, d1', d2', d3', d4⟩ := cells5 (row_grown HC5.out hg6); obtain ⟨r0', r1', r2', r3', r4'⟩ := cells5 HA6.out; have fz := frz HA6.out; clear hg6)))
      refine ret2c (c := ⟨op, (y1 : Int), 0, 0, 0⟩) rfl (by rfl) rfl (set5 HA6.out _ _ _ _ _) ?_
      exact ⟨rfl, grown_set (grown_set (grown_set (grown_set (grown_set HG6.out _ _ (by omega) _) _ _ (by omega) _) _ _ (by omega) _) _ _ (by omega) _) _ _ (by omega) _⟩
end Go.Proofs.YtncohgcklmogpaaDoor.cd
