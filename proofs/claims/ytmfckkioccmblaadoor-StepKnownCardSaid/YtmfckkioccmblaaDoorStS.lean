/-
  The law StepOne answers true. The tables are as the program's text lays them (Tab).
-/
import Derived.Test.YtmfckkioccmblaaDoorStQ
import Derived.LoopTactic
namespace Go.Proofs.YtmfckkioccmblaaDoor.sg
open Go Go.ChangeShapes Go.WideShapes Go.ChangeAt Go.RowKit Go.Proofs.YtmfckkioccmblaaDoor.cd
set_option linter.unusedVariables false
set_option maxRecDepth 1000000

set_option maxHeartbeats 4000000 in
theorem one_ok (x R : List Int) (hx : x.length = 16) (hr : R.length = 16) (p T : Int) (op : Nat) (a b c n : Int) (w : World) (hT : Tab w) (ho : ∀ k, R.getD k 0 ≠ (x.set 0 0).getD k 0 → (k : Int) = a) (hz : R.getD 0 0 = 0) (hD : ∀ w', w.grownBy w' none → Calls Tryd.prog 8 #[.agg (row x), .int .i64 p, .agg #[.int .u8 (op : Int), .int .i64 a, .int .i64 b, .int .i64 c, .int .i64 n]] w' fun e w2 => e = .returned (.tuple #[.agg (row R), .int .i64 T, .int .i64 0]) ∧ w'.grownBy w2 none) : Calls Tryd.prog 6 #[.agg (row x), .int .i64 p, .agg #[.int .u8 (op : Int), .int .i64 a, .int .i64 b, .int .i64 c, .int .i64 n]] w fun e w' => e = .returned (.bool true) ∧ w.grownBy w' none := by
  have HW : Hid (∀ w', w.grownBy w' none → _) := Lib.hid fun w' h => works_any w' (hT.grown h)
  have HL := Lib.hid hr
  have HX := Lib.hid hx
  have HX0 : Hid ((x.set 0 0).length = 16) := Lib.hid (by simp [hx])
  have HO := Lib.hid ho
  have HZ0 := Lib.hid hz
  have HD := Lib.hid hD
  obtain ⟨w2, hw2, hg2, hA2, hC2⟩ := boxes2 w x (op : Int) a b c n
  have HW2 := Lib.hid hw2
  have HG2 := Lib.hid hg2
  have HA2 := Lib.hid hA2
  have HC2 : Hid (∀ w', w2.grownBy w' none → _) := Lib.hid fun w' h => cells5 (row_grown hC2 h)
  have HZ2 : Hid (w.heap.size < w2.heap.size) := Lib.hid (Array.getElem?_eq_some_iff.1 hA2).1
  obtain ⟨c0, c1, c2, c3, c4⟩ := HC2.out _ (grown_refl _ _)
  clear hT hw2 hg2 hA2 hC2 hx hr hD ho hz
  go_enter Tryd.func6, Tryd.ntmps6
  go_upto_region 1 with fail
  rw [HW2.out]
  go_upto_region 2 with (first
    | ((with_reducible refine load_any x 3 w.heap.size ?_ ?_ HX.out ?_); ((rfl)); ((exact HA2.out)))
    | (go_at_call 8; ((with_reducible refine (HD.out _ HG2.out).mono ?_); rintro e w3 ⟨rfl, hg3⟩; have HZ3 := Lib.hid (grown_alloc hg3 (.cells (row R) 23)); have HS3 := Lib.hid hg3.size; have HB3 := Lib.hid (heap_alloc_new w3 (.cells (row R) 23)); clear hg3))
    | ((with_reducible refine store_new' R 7 17 ?_ ?_ HL.out ?_); ((rfl)); ((rfl))))
  obtain ⟨b1, hb1⟩ : ∃ b1, b1 = w3.heap.size := ⟨_, rfl⟩
  rw [← hb1] at HB3 HS3
  generalize w3.alloc (.cells (row R) 23) = w4 at HZ3 HB3 ⊢
  try rw [← hb1]
  clear hb1 c0 c1 c2 c3 c4
  have hc0 := cellR (row_grown HA2.out HZ3.out) (k := 0) (by rw [HX.out]; omega)
  have hf0 := frz (row_grown HA2.out HZ3.out) 0
  have HA5 : Hid ((w4.setCell ⟨w.heap.size, 0, none⟩ (.int .u32 0)).heap[w.heap.size]? = some (.cells (row (x.set 0 0)) 23 (0, 0))) := Lib.hid (set_cellR (row_grown HA2.out HZ3.out) 0)
  have HB5 : Hid ((w4.setCell ⟨w.heap.size, 0, none⟩ (.int .u32 0)).heap[b1]? = some (.cells (row R) 23 (0, 0))) := Lib.hid ((heap_setCell_other _ _ _ _ (show b1 ≠ w.heap.size by have := HZ2.out; have := HS3.out; omega)).trans HB3.out)
  have HG5 := Lib.hid (grown_set (grown_trans HG2.out HZ3.out) w.heap.size 0 (Nat.le_refl _) (.int .u32 0))
  have HC5 : Hid ((w4.setCell ⟨w.heap.size, 0, none⟩ (.int .u32 0)).cell? ⟨w.heap.size + 1, 1, none⟩ = some (.int .i64 a)) := Lib.hid (by
    rw [World.cell?_of_block (w := w4) (heap_setCell_other _ _ _ _ (show w.heap.size + 1 ≠ w.heap.size by omega))]; exact (HC2.out _ HZ3.out).2.1)
  go_upto_region 5 with fail
  generalize w4.setCell ⟨w.heap.size, 0, none⟩ (.int .u32 0) = w5 at HA5 HB5 HG5 HC5 ⊢
  clear hc0 hf0
  go_wp2_with fail
  go_loopw [10, 33] (fun o i wr => ∃ (k m : Nat), k ≤ 16 ∧ i = .int .i64 (k : Int) ∧ o = .int .i64 (m : Int) ∧ (m = 0 ∨ (m = 1 ∧ a < (k : Int))) ∧ w5.grownBy wr none) (fun _ i _ => 16 - (intOf i).toNat)
  case atStart => exact ⟨0, 0, by omega, rfl, rfl, .inl rfl, grown_refl _ _⟩
  case round =>
    obtain ⟨k, m, hk, rfl, rfl, hm, hg⟩ := hrel
    have HM := Lib.hid hm
    have HG := Lib.hid hg
    have hm1 : m ≤ 1 := by omega
    clear hm hg
    obtain ⟨wo, hwo⟩ : ∃ wo, wo = wr := ⟨_, rfl⟩
    subst hwo
    by_cases hlt : k < 16
    · have HK : Hid (∀ w', wo.grownBy w' none → w'.cell? ⟨b1, k, none⟩ = some (.int .u32 (R.getD k 0)) ∧ w'.cell? ⟨w.heap.size, k, none⟩ = some (.int .u32 ((x.set 0 0).getD k 0))) := Lib.hid fun w' h => ⟨cellR (row_grown HB5.out (grown_trans HG.out h)) (by rw [HL.out]; exact hlt), cellR (row_grown HA5.out (grown_trans HG.out h)) (by rw [HX0.out]; exact hlt)⟩
      have HKA := HO.out k
      generalize R.getD k 0 = y at HK HKA
      generalize (x.set 0 0).getD k 0 = z at HK HKA
      by_cases he : y = z
      · have hq : (y != z) = false := by simp [he]
        clear he HKA
        go_upto_region 9 with fail
        go_region_held3 (fun w' => w'.cell? ⟨b1, k, none⟩ = some (.int .u32 y) ∧ w'.cell? ⟨w.heap.size, k, none⟩ = some (.int .u32 z)) (first | (with_reducible exact HK.out _ (grown_refl _ _)) | (with_reducible exact HK.out _ (grown_drew (grown_refl _ _)))) (fail)
        go_wp2_with fail
        go_roundw
        case rel => exact ⟨k + 1, m, by omega, by go_num, rfl, by have := HM.out; omega, grown_drew HG.out⟩
        case measure => simp [intOf]; omega
      · have hq : (y != z) = true := by simp [he]
        have hka : (k : Int) = a := HKA he
        have HKA' := Lib.hid hka
        have hca : ∀ w', wo.grownBy w' none → w'.cell? ⟨w.heap.size + 1, 1, none⟩ = some (.int .i64 (k : Int)) := fun w' h => by rw [hka]; exact (grown_trans HG.out h).cell HC5.out (by simp)
        have HCA := Lib.hid hca
        clear he HKA hca hka
        go_upto_region 9 with fail
        go_region_held3 (fun w' => w'.cell? ⟨b1, k, none⟩ = some (.int .u32 y) ∧ w'.cell? ⟨w.heap.size, k, none⟩ = some (.int .u32 z)) (first | (with_reducible exact HK.out _ (grown_refl _ _)) | (with_reducible exact HK.out _ (grown_drew (grown_refl _ _)))) (fail)
        have hca := HCA.out _ (grown_drew (grown_refl wo none))
        go_wp2_with fail
        go_roundw
        case rel => exact ⟨k + 1, m + 1, by omega, by go_num, by go_num, by have := HM.out; have := HKA'.out; omega, grown_drew HG.out⟩
        case measure => simp [intOf]; omega
    · have hb0 := cellR (row_grown HB5.out HG.out) (k := 0) (by rw [HL.out]; omega)
      rw [HZ0.out] at hb0
      go_wp2_with (go_at_call 10; ((with_reducible refine (HW.out _ (grown_trans HG5.out HG.out)).mono ?_); rintro e w9 ⟨rfl, hg9⟩; have HG9 := Lib.hid (grown_trans (grown_trans HG5.out HG.out) hg9); clear hg9))
      go_ret
      exact ⟨rfl, HG9.out⟩
theorem one_true (x : List Int) (hx : x.length = 16) (p : Int) (c : Cd) (w : World) (hT : Tab w) (h8 : c.op < 256) : Calls Tryd.prog 6 #[.agg (row x), .int .i64 p, .agg (ca c)] w fun e w' => e = .returned (.bool true) ∧ w.grownBy w' none := by
  have hD := fun w' (h : w.grownBy w' none) => do_any x hx p c w' (hT.grown h) h8
  rcases doE_cases p c with h | h | ⟨h, _⟩
  · unfold doR doT at hD
    rw [if_neg (by rw [h]; decide), if_neg (by rw [h]; decide)] at hD
    exact one_bad x hx p _ c.op c.a c.b c.c c.n w hT (.inl h) hD
  · unfold doR doT at hD
    rw [if_neg (by rw [h]; decide), if_neg (by rw [h]; decide)] at hD
    exact one_bad x hx p _ c.op c.a c.b c.c c.n w hT (.inr h) hD
  · have hR : doR x p c = res (x.set 0 0) c := if_pos h
    rw [h, hR] at hD
    exact one_ok x _ hx (res_len (by simp [hx]) _) p _ c.op c.a c.b c.c c.n w hT (fun k hk => res_other c k hk) ((res_0 c).trans (set_0 hx)) hD
end Go.Proofs.YtmfckkioccmblaaDoor.sg
