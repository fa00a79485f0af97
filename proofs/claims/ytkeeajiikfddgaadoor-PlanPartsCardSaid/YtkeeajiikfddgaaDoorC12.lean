/-
  The law PlanParts returns true at a plan that may be: the walk. Condition: the table of bounds lies in its variable as the program's text has it.
-/
import Derived.Test.YtkeeajiikfddgaaDoorC11
namespace Go.Proofs.YtkeeajiikfddgaaDoor.qq
open Go Go.ChangeShapes Go.WideShapes Go.ChangeAt Go.RowKit
set_option linter.unusedVariables false

set_option maxHeartbeats 8000000 in
theorem parts_walk (C N L D : Nat) (se wa ba ne tr : Int) (w : World) (hT : Tab w) (hC : 1 ≤ C ∧ C ≤ 16) (hL : 1 ≤ L ∧ L ≤ 4) (hD : 1 ≤ D) (hN : N = D + C * L) (hN2 : N ≤ 256)
    (hM : ∀ w, Tab w → Calls Tryd.prog 14 #[.agg #[.int .i64 (C : Int), .int .i64 se, .int .i64 wa, .int .i64 (N : Int), .int .i64 (L : Int), .int .i64 ba, .int .i64 ne, .int .i64 tr]] w fun e w' => e = .returned (.int .i64 0) ∧ w.grownBy w' none)
    (hDa : ∀ w, Tab w → Calls Tryd.prog 18 #[.agg #[.int .i64 (C : Int), .int .i64 se, .int .i64 wa, .int .i64 (N : Int), .int .i64 (L : Int), .int .i64 ba, .int .i64 ne, .int .i64 tr]] w fun e w' => e = .returned (.int .i64 (D : Int)) ∧ w.grownBy w' none)
    (hLog : ∀ (m : Nat), m < C → ∀ w, Tab w → Calls Tryd.prog 10 #[.agg #[.int .i64 (C : Int), .int .i64 se, .int .i64 wa, .int .i64 (N : Int), .int .i64 (L : Int), .int .i64 ba, .int .i64 ne, .int .i64 tr], .int .i64 (m : Int)] w fun e w' => e = .returned (.tuple #[.int .i64 ((D + m * L : Nat) : Int), .int .i64 (L : Int), .int .i64 0]) ∧ w.grownBy w' none) :
    Calls Tryd.prog 7 #[.agg #[.int .i64 (C : Int), .int .i64 se, .int .i64 wa, .int .i64 (N : Int), .int .i64 (L : Int), .int .i64 ba, .int .i64 ne, .int .i64 tr]] w fun e w' => e = .returned (.bool true) ∧ w.grownBy w' none := by
  have HG0 : Hid (w.grownBy (w.alloc (.cells #[.int .i64 (C : Int), .int .i64 se, .int .i64 wa, .int .i64 (N : Int), .int .i64 (L : Int), .int .i64 ba, .int .i64 ne, .int .i64 tr] 26)) none) := Lib.hid (grown_alloc (grown_refl _ _) _)
  have HA : Hid (CfgAt (w.alloc (.cells #[.int .i64 (C : Int), .int .i64 se, .int .i64 wa, .int .i64 (N : Int), .int .i64 (L : Int), .int .i64 ba, .int .i64 ne, .int .i64 tr] 26)) w.heap.size ⟨C, se, wa, N, L, ba, ne, tr⟩) := Lib.hid (cfg_at w ⟨C, se, wa, N, L, ba, ne, tr⟩)
  have HT := Lib.hid hT
  have HM := Lib.hid hM
  have HD := Lib.hid hDa
  have HLg := Lib.hid hLog
  have HN := Lib.hid hN
  have hCL : D ≤ N := by omega
  obtain ⟨i3, hi3⟩ : ∃ i, Tryd.prog.info? 3 = some i := by
    have := info3
    cases h : Tryd.prog.info? 3 with
    | none => rw [h] at this; cases this
    | some i => exact ⟨i, rfl⟩
  have hii := info3
  rw [hi3] at hii
  simp at hii
  obtain ⟨hz, hsz, hby⟩ := hii
  have HI := Lib.hid hi3
  have HZ := Lib.hid hz
  have HSZ := Lib.hid hsz
  have HBY := Lib.hid hby
  clear hT hM hDa hLog hN hi3 hz hsz hby
  go_enter Tryd.func7, Tryd.ntmps7
  go_wp2_with (first
    | (go_at_call 14; ((with_reducible refine (HM.out _ (HT.out.grown HG0.out)).mono ?_); rintro e w2 ⟨rfl, hg2⟩; have HA2 := Lib.hid (HA.out.grown hg2); have HG2 := Lib.hid (grown_trans HG0.out hg2); clear hg2)))
  have HT2 : Hid (∀ wr, w2.grownBy wr none → Tab wr) := Lib.hid (fun wr h => HT.out.grown (grown_trans HG2.out h))
  go_region_held3 (fun w' => w'.cell? ⟨w.heap.size, 0, none⟩ = some (.int .i64 (C : Int)) ∧ w'.cell? ⟨w.heap.size, 1, none⟩ = some (.int .i64 se) ∧ w'.cell? ⟨w.heap.size, 2, none⟩ = some (.int .i64 wa) ∧ w'.cell? ⟨w.heap.size, 3, none⟩ = some (.int .i64 (N : Int)) ∧ w'.cell? ⟨w.heap.size, 4, none⟩ = some (.int .i64 (L : Int)) ∧ w'.cell? ⟨w.heap.size, 5, none⟩ = some (.int .i64 ba) ∧ w'.cell? ⟨w.heap.size, 6, none⟩ = some (.int .i64 ne) ∧ w'.cell? ⟨w.heap.size, 7, none⟩ = some (.int .i64 tr))
    (first | exact (HA2.out.grown (grown_drew (grown_refl _ _))).limbs | exact limbs_next (c := ⟨C, se, wa, N, L, ba, ne, tr⟩) (by assumption) (by assumption))
    (first
      | (go_at_call 18; ((with_reducible refine (HD.out _ (HT2.out _ (grown_drew (grown_refl _ _)))).mono ?_); rintro e w3 ⟨rfl, hg3⟩)))
  have HA3 := Lib.hid ((HA2.out.grown (grown_drew (grown_refl _ _))).grown hg3)
  have HG3 := Lib.hid (grown_trans (grown_drew (grown_refl w2 none)) hg3)
  obtain ⟨c0, c1, c2, c3, c4, c5, c6, c7⟩ := HA3.out
  dsimp only at c0 c1 c2 c3 c4 c5 c6 c7
  have HS4 : Hid (St w2 (w3.alloc (.cells (List.replicate N (Value.int .i64 0)).toArray 3)) w3.heap.size (List.replicate N 0)) := Lib.hid ⟨grown_alloc HG3.out _, by rw [show irow (List.replicate N 0) = (List.replicate N (Value.int .i64 0)).toArray by simp [irow]]; exact heap_alloc_new _ _, HG3.out.size⟩
  clear hg3
  go_wp2_with (first
    | ((with_reducible refine make_at 40 3 i3 (.int .i64 0) 27 27 N Tryd.underlying40 HI.out HZ.out HSZ.out ?_ ?_ ?_ ?_ ?_ (List.replicate N (Value.int .i64 0)) ?_ ?_); (rfl); (rfl); (rfl); (rw [HBY.out]; omega); (omega); (rfl); generalize w3.alloc (.cells (List.replicate N (Value.int .i64 0)).toArray 3) = w4 at HS4; clear c0 c1 c2 c3 c4 c5 c6 c7; have HA4 := Lib.hid (HA2.out.grown HS4.out.grown); obtain ⟨c0, c1, c2, c3, c4, c5, c6, c7⟩ := HA4.out; dsimp only at c0 c1 c2 c3 c4 c5 c6 c7)
    | (go_at_call 18; ((with_reducible refine (HD.out _ (HT2.out _ HS4.out.grown)).mono ?_); rintro e w5 ⟨rfl, hg5⟩; clear c0 c1 c2 c3 c4 c5 c6 c7; have HS5 := Lib.hid (HS4.out.call hg5); clear hg5)))
  go_loopw [31] (fun i wr => ∃ (k : Nat) (xs : List Int), k ≤ D ∧ i = .int .i64 (k : Int) ∧ St w2 wr w3.heap.size xs ∧ Own xs N k) (fun i _ => D - (intOf i).toNat)
  case atStart => exact ⟨0, _, Nat.zero_le _, rfl, HS5.out, Own.zero N⟩
  case round =>
    obtain ⟨k, xs, hk, rfl, hs, ho⟩ := hrel
    have HS := Lib.hid hs
    have HO := Lib.hid ho
    clear hs ho
    by_cases hlt : k < D
    · obtain ⟨x, hx⟩ : ∃ x, xs[k]? = some x := ⟨_, List.getElem?_eq_getElem (by rw [HO.out.len]; omega)⟩
      have d0 := HS.out.cell hx
      have d1 := HS.out.frozen k
      have HO2 := Lib.hid (HO.out.next 100 (by decide))
      have HS2 := Lib.hid (HS.out.store k 100)
      clear hx
      go_wp2_with fail
      go_roundw
      case rel => exact ⟨k + 1, _, by omega, by go_num, HS2.out, HO2.out⟩
      case measure => simp [intOf]; omega
    · obtain rfl : D = k := by omega
      have HA6 := Lib.hid (HA2.out.grown HS.out.grown)
      obtain ⟨c0, c1, c2, c3, c4, c5, c6, c7⟩ := HA6.out
      dsimp only at c0 c1 c2 c3 c4 c5 c6 c7
      go_wp2_with fail
      clear c0 c1 c2 c3 c4 c5 c6 c7
      go_loopw [40] (fun i wr => ∃ (m : Nat) (xs : List Int), m ≤ C ∧ i = .int .i64 (m : Int) ∧ St w2 wr w3.heap.size xs ∧ Own xs N (D + m * L)) (fun i _ => C - (intOf i).toNat)
      case atStart => exact ⟨0, _, Nat.zero_le _, rfl, HS.out, by rw [Nat.zero_mul]; exact HO.out⟩
      case round =>
        clear HS HO
        obtain ⟨m, xs, hm, rfl, hs, ho⟩ := hrel
        have HS := Lib.hid hs
        have HO := Lib.hid ho
        clear hs ho
        have HA7 := Lib.hid (HA2.out.grown HS.out.grown)
        by_cases hmlt : m < C
        · have hmul : D + m * L + L ≤ N := by
            have h1 : (m + 1) * L ≤ C * L := Nat.mul_le_mul_right L (by omega)
            have h2 : (m + 1) * L = m * L + L := by rw [Nat.add_mul, Nat.one_mul]
            have h3 := HN.out
            omega
          have HLm := Lib.hid (HLg.out m hmlt _ (HT2.out _ HS.out.grown))
          obtain ⟨t0, ht0⟩ : ∃ t0, t0 = D + m * L := ⟨_, rfl⟩
          have HE : Hid (D + (m + 1) * L = t0 + L) := Lib.hid (by rw [ht0, Nat.add_mul, Nat.one_mul, Nat.add_assoc])
          rw [← ht0] at HLm HO hmul
          clear ht0
          obtain ⟨c0, c1, c2, c3, c4, c5, c6, c7⟩ := HA7.out
          dsimp only at c0 c1 c2 c3 c4 c5 c6 c7
          go_wp2_with (first
            | (go_at_call 10; ((with_reducible refine HLm.out.mono ?_); rintro e w8 ⟨rfl, hg8⟩; clear c0 c1 c2 c3 c4 c5 c6 c7; have HS8 := Lib.hid (HS.out.call hg8); obtain ⟨c0, c1, c2, c3, c4, c5, c6, c7⟩ := HA7.out.grown hg8; dsimp only at c0 c1 c2 c3 c4 c5 c6 c7; clear hg8)))
          clear c0 c1 c2 c3 c4 c5 c6 c7
          go_loopw [9] (fun i wr => ∃ (t : Nat) (xs : List Int), t0 ≤ t ∧ t ≤ t0 + L ∧ i = .int .i64 (t : Int) ∧ St w2 wr w3.heap.size xs ∧ Own xs N t) (fun i _ => t0 + L - (intOf i).toNat)
          case atStart => exact ⟨t0, _, Nat.le_refl _, by omega, rfl, HS8.out, HO.out⟩
          case round =>
            clear HS8 HO HS
            obtain ⟨t, xs, ht1, ht2, rfl, hs, ho⟩ := hrel
            have HS := Lib.hid hs
            have HO := Lib.hid ho
            clear hs ho
            by_cases htl : t < t0 + L
            · obtain ⟨x, hx⟩ : ∃ x, xs[t]? = some x := ⟨_, List.getElem?_eq_getElem (by rw [HO.out.len]; omega)⟩
              obtain rfl : x = 0 := (HO.out.is t x hx).2 (Nat.le_refl _)
              have d0 := HS.out.cell hx
              have d1 := HS.out.frozen t
              have HO2 := Lib.hid (HO.out.next ((m : Int) + 1) (by omega))
              have HS2 := Lib.hid (HS.out.store t ((m : Int) + 1))
              clear hx
              go_wp2_with fail
              go_roundw
              case rel => exact ⟨t + 1, _, by omega, by omega, by go_num, HS2.out, HO2.out⟩
              case measure => simp [intOf]; omega
            · obtain rfl : t0 + L = t := by omega
              go_wp2_with fail
              go_roundw
              case rel => exact ⟨m + 1, _, by omega, by go_num, HS.out, by rw [HE.out]; exact HO.out⟩
              case measure => simp [intOf]; omega
        · obtain rfl : C = m := by omega
          rw [← HN.out] at HO
          go_wp2_with fail
          go_loop [89] (fun i => ∃ j : Nat, j ≤ N ∧ i = .int .i64 (j : Int)) (fun i => N - (intOf i).toNat)
          case atStart => exact ⟨0, Nat.zero_le _, rfl⟩
          case round =>
            obtain ⟨j, hj, rfl⟩ := hrel
            by_cases hjl : j < N
            · obtain ⟨x, hx⟩ : ∃ x, xs[j]? = some x := ⟨_, List.getElem?_eq_getElem (by rw [HO.out.len]; omega)⟩
              have hx0 : (x == 0) = false := by
                have := HO.out.is j x hx
                simp; omega
              have d0 := HS.out.cell hx
              clear hx
              go_wp2_with fail
              go_round
              case rel => exact ⟨j + 1, by omega, by go_num⟩
              case measure => simp [intOf]; omega
            · go_wp2_with (first
                | (go_at_call 13; ((with_reducible refine (works_any _ (HT2.out _ HS.out.grown)).mono ?_); rintro e w9 ⟨rfl, hg9⟩)))
              go_ret
              exact ⟨rfl, grown_trans (grown_trans HG2.out HS.out.grown) hg9⟩

theorem parts_true (c : Cfg) (w : World) (hT : Tab w) : Calls Tryd.prog 7 #[.agg c.cells] w fun e w' => e = .returned (.bool true) ∧ w.grownBy w' none := by
  by_cases hm : c.may
  · have hM : ∀ w, Tab w → Calls Tryd.prog 14 #[.agg c.cells] w fun e w' => e = .returned (.int .i64 0) ∧ w.grownBy w' none := fun w h => by
      have := may_any c w h
      rwa [yes_of hm] at this
    have hD : ∀ w, Tab w → Calls Tryd.prog 18 #[.agg c.cells] w fun e w' => e = .returned (.int .i64 c.data) ∧ w.grownBy w' none := fun w h => data_yes c w h hm
    have hL : ∀ (m : Nat), (m : Int) < c.co → ∀ w, Tab w → Calls Tryd.prog 10 #[.agg c.cells, .int .i64 (m : Int)] w fun e w' => e = trip (c.data + (m : Int) * c.lo) c.lo 0 ∧ w.grownBy w' none := fun m h w hw => log_in c m w hw hm (by omega) h
    obtain ⟨h1, h2, h3⟩ := hm.fits
    have hd := hm.2
    have hde : c.bl = c.data + c.co * c.lo := by unfold Cfg.data; omega
    clear hm
    obtain ⟨D, hDe⟩ : ∃ D : Nat, c.data = (D : Int) := ⟨c.data.toNat, by omega⟩
    rw [hDe] at hD hL hd hde
    clear hDe
    obtain ⟨co, se, wa, bl, lo, ba, ne, tr⟩ := c
    unfold Cfg.cells at *
    dsimp only at *
    obtain ⟨C, rfl⟩ : ∃ C : Nat, co = (C : Int) := ⟨co.toNat, by omega⟩
    obtain ⟨L, rfl⟩ : ∃ L : Nat, lo = (L : Int) := ⟨lo.toNat, by omega⟩
    obtain ⟨N, rfl⟩ : ∃ N : Nat, bl = (N : Int) := ⟨bl.toNat, by omega⟩
    refine parts_walk C N L D se wa ba ne tr w hT (by omega) (by omega) (by omega) (by exact_mod_cast hde) (by omega) hM hD fun m hm w hw => ?_
    have := hL m (by omega) w hw
    rwa [show (D : Int) + (m : Int) * (L : Int) = ((D + m * L : Nat) : Int) by simp] at this
  · exact parts_no c w hT hm
end Go.Proofs.YtkeeajiikfddgaaDoor.qq
