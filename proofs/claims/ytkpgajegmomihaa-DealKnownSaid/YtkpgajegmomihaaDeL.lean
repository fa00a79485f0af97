/-
  The law DealKnown returns true: the walk. No condition.
-/
import Derived.Test.YtkpgajegmomihaaDeK
import Derived.Deep.Cut
namespace Go.Proofs.Ytkpgajegmomihaa.de
open Go Go.ChangeShapes Go.WideShapes Go.ChangeAt Go.RowKit
open Go.Proofs.Ytkpgajegmomihaa.tt (U zd row tyne add_lit lt_of range_grown setCells_rest heap_setCells heap_setCells_other grown_setCells grown_setRow grown_new grown_drewN below_of grown_alloc grown_refl grown_trans grown_drew)
open Go.Proofs.Ytkpgajegmomihaa.oo (ref flag' gives older ret_bool jump_ret)
set_option linter.unusedVariables false
set_option maxRecDepth 1000000

def D3 : Dl := ⟨2, 1, sN 1, 3, false, false, 0⟩
def D4 : Dl := ⟨2, 1, sN 1, 3, false, true, 1⟩
def D5 : Dl := ⟨2, 0, zs, 3, false, false, 0⟩
def D6 : Dl := ⟨2, 1, sN 2, 3, false, false, 0⟩
theorem oD4 : oD D4 = D5 := by
  have : kp D4 = 3 := by unfold kp; rw [if_pos (by decide)]; rfl
  unfold oD; rw [this]; rfl
section
variable {w0 w : World} {g : Nat}
theorem e2 (h : Lw w0 w g D2) : Calls Try.prog 12 #[.pointer (some ⟨g, 0, none⟩)] w fun e w' => e = .returned (.tuple #[.bool false, .int .i64 0]) ∧ Lw w0 w' g D1 ∧ w.grownBy w' (some g) := h.end_
theorem e1 (h : Lw w0 w g D1) : Calls Try.prog 12 #[.pointer (some ⟨g, 0, none⟩)] w fun e w' => e = .returned (.tuple #[.bool true, .int .i64 0]) ∧ Lw w0 w' g (nw 2) ∧ w.grownBy w' (some g) := h.end_
theorem e0 (h : Lw w0 w g (nw 2)) : Calls Try.prog 12 #[.pointer (some ⟨g, 0, none⟩)] w fun e w' => e = .returned (.tuple #[.bool false, .int .i64 8]) ∧ Lw w0 w' g (nw 2) ∧ w.grownBy w' (some g) := h.end_
theorem stamp0 (h : Lw w0 w g (nw 2)) : Calls Try.prog 13 #[.pointer (some ⟨g, 0, none⟩)] w fun e w' => e = .returned (.int .u64 0) ∧ w = w' := stamp_any h.at_
theorem b4 (h : Lw w0 w g (nw 2)) : Calls Try.prog 10 #[.pointer (some ⟨g, 0, none⟩), .agg (sa (sN 1)), .int .u64 3] w fun e w' => e = .returned (.int .i64 0) ∧ Lw w0 w' g D3 ∧ w.grownBy w' (some g) := h.begin_ (sN 1) 3 (by decide)
theorem f1 (h : Lw w0 w g D3) : Calls Try.prog 14 #[.pointer (some ⟨g, 0, none⟩), .int .u32 1] w fun e w' => e = .returned (.int .i64 0) ∧ Lw w0 w' g D4 ∧ w.grownBy w' (some g) := h.fail_ 1 (by decide) (by decide)
theorem o1 (h : Lw w0 w g D4) : Calls Try.prog 15 #[.pointer (some ⟨g, 0, none⟩)] w fun e w' => e = .returned (.tuple #[.agg (sa (sN 1)), .int .u32 1, .int .i64 0]) ∧ Lw w0 w' g D5 ∧ w.grownBy w' (some g) := by
  have := h.over
  rw [oD4] at this
  exact this
theorem b5 (h : Lw w0 w g D5) : Calls Try.prog 10 #[.pointer (some ⟨g, 0, none⟩), .agg (sa (sN 2)), .int .u64 9] w fun e w' => e = .returned (.int .i64 0) ∧ Lw w0 w' g D6 ∧ w.grownBy w' (some g) := h.begin_ (sN 2) 9 (by decide)
theorem stamp3 (h : Lw w0 w g D6) : Calls Try.prog 13 #[.pointer (some ⟨g, 0, none⟩)] w fun e w' => e = .returned (.int .u64 3) ∧ w = w' := stamp_any h.at_
end
theorem new0 (w : World) : Calls Try.prog 8 #[.int .i64 0] w fun e w' => e = .returned (.tuple #[.pointer none, .int .i64 2]) ∧ w = w' := new_no 0 w (by decide)
set_option maxHeartbeats 4000000 in
theorem known_true (w : World) : Calls Try.prog 3 #[] w fun e w' => e = .returned (.bool true) ∧ w.grownBy w' none := by
  have HN := Lib.hid (new2 w w (grown_refl _ _))
  have HS : Hid (∀ n w, _) := Lib.hid save_any
  have HWK : Hid (∀ w, _) := Lib.hid works_any
  go_enter Try.func3, Try.ntmps3
  go_upto_region 10 with (first
    | (go_at_call 8; (with_reducible refine HN.out.mono ?_); rintro e w1 ⟨g, rfl, h1, _, _⟩; have H := Lib.hid h1; clear h1)
    | (go_at_call 9; (with_reducible refine (HWK.out _).mono ?_); rintro e w2 ⟨rfl, h2⟩; have h3 := H.out.grown h2; clear H; have H := Lib.hid h3; clear h2 h3)
    | (go_at_call 11; first
       | ((with_reducible refine (HS.out 1 _).mono ?_); rintro e w2 ⟨rfl, h2⟩; have h3 := H.out.grown h2; clear H; have H := Lib.hid h3; clear h2 h3)
       | ((with_reducible refine (HS.out 2 _).mono ?_); rintro e w2 ⟨rfl, h2⟩; have h3 := H.out.grown h2; clear H; have H := Lib.hid h3; clear h2 h3))
    | (go_at_call 10; first
       | ((with_reducible refine (b1 H.out).mono ?_); rintro e w3 ⟨rfl, h3, _⟩; clear H; have H := Lib.hid h3; clear h3)
       | ((with_reducible refine (b2 H.out).mono ?_); rintro e w3 ⟨rfl, h3, _⟩; clear H; have H := Lib.hid h3; clear h3)
       | ((with_reducible refine (b4 H.out).mono ?_); rintro e w3 ⟨rfl, h3, _⟩; clear H; have H := Lib.hid h3; clear h3))
    | (go_at_call 12; first
       | ((with_reducible refine (e2 H.out).mono ?_); rintro e w3 ⟨rfl, h3, _⟩; clear H; have H := Lib.hid h3; clear h3)
       | ((with_reducible refine (e1 H.out).mono ?_); rintro e w3 ⟨rfl, h3, _⟩; clear H; have H := Lib.hid h3; clear h3)
       | ((with_reducible refine (e0 H.out).mono ?_); rintro e w3 ⟨rfl, h3, _⟩; clear H; have H := Lib.hid h3; clear h3))
    | (go_at_call 13; (with_reducible refine (stamp0 H.out).mono ?_); rintro e w4 ⟨rfl, rfl⟩)
    | (go_at_call 14; (with_reducible refine (f1 H.out).mono ?_); rintro e w3 ⟨rfl, h3, _⟩; clear H; have H := Lib.hid h3; clear h3)
    | (go_at_call 15; (with_reducible refine (o1 H.out).mono ?_); rintro e w9 ⟨rfl, h3, _⟩; clear H; have H := Lib.hid h3; clear h3)
    | ((with_reducible refine store_svN (sN 1) _ _ _ ?_ ?_ ?_ ?_); ((rfl)); ((rfl)); ((rfl))))
  obtain ⟨S1, hS1⟩ : ∃ S1, sN 1 = S1 := ⟨_, rfl⟩
  obtain ⟨S2, hS2⟩ : ∃ S2, sN 2 = S2 := ⟨_, rfl⟩
  have HS1 : Hid (∀ w, _) := Lib.hid fun w => HS.out 1 w
  have HS2 : Hid (∀ w, _) := Lib.hid fun w => HS.out 2 w
  have HB5 : Hid (∀ W, Lw w W g D5 → _) := Lib.hid fun W h => b5 h
  rw [hS1] at HS1
  rw [hS2] at HS2 HB5
  rw [hS1]
  clear hS1 hS2 HS
  obtain ⟨w10, hw10⟩ : ∃ w10, w9.alloc (.cells (sa S1) 31) = w10 := ⟨_, rfl⟩
  have H10 : Hid (Lw w w10 g D5) := Lib.hid (hw10 ▸ H.out.grown (grown_alloc (grown_refl _ _) _))
  have HR0 : Hid (w10.rangeAt w9.heap.size 0 (sl S1)) := Lib.hid (hw10 ▸ sv_new w9 S1 _)
  have hgB : Hid (g < w9.heap.size) := Lib.hid H.out.at_.lt
  obtain ⟨B, hB⟩ : ∃ B, w9.heap.size = B := ⟨_, rfl⟩
  rw [hw10]
  rw [hB] at HR0 hgB ⊢
  clear hw10 H hB
  obtain ⟨t, nn, HT, hagg, hsize, hld, hsz, hst⟩ := named
  have hld := hld B 0 S1
  clear hsz hst
  have hne : ∀ w, (binOp .neq 31 (.agg (sa S1)) (.agg (sa S1))).run Try.prog w = .ok (.bool false) w := fun w => by
    have := neS S1 S1 w
    simpa using this
  have HK1 : Hid (w10.drew.rangeAt B 0 (sl S1)) := Lib.hid HR0.out
  have H11 : Hid (Lw w w10.drew g D5) := Lib.hid (H10.out.grown (grown_drewN (grown_refl _ _) 1))
  rw [HT.out.1]
  go_region_held3 (fun W => W.rangeAt B 0 (sl S1))
    (first | exact HR0.out | exact HK1.out | exact HK2.out | exact HK3.out | exact HK4.out)
    (first
      | (go_at_call 11; first
         | ((with_reducible refine (HS1.out _).mono ?_); rintro e w2 ⟨rfl, h2⟩; have H12 := Lib.hid (H11.out.grown h2); have HK2 := Lib.hid (range_grown HK1.out h2 (by simp)); clear h2)
         | ((with_reducible refine (HS2.out _).mono ?_); rintro e w3 ⟨rfl, h2⟩; have H13 := Lib.hid (H12.out.grown h2); have HK3 := Lib.hid (range_grown HK2.out h2 (by simp)); clear h2))
      | (go_at_call 10; ((with_reducible refine (HB5.out _ H13.out).mono ?_); rintro e w4 ⟨rfl, h4, hg4⟩; have H14 := Lib.hid h4; have HK4 := Lib.hid (range_grown HK3.out hg4 (by have := hgB.out; simp; omega)); clear h4 hg4))
      | (go_at_call 13; (with_reducible refine (stamp3 H14.out).mono ?_); rintro e w5 ⟨rfl, rfl⟩))
  clear HS1 HS2 HB5 HN HWK H10 HR0 HK1 H11 H12 HK2 H13 HK3 hne
  go_upto_region 16 with (first
    | (go_at_call 12; (with_reducible refine (end_nil _).mono ?_); rintro e w6 ⟨rfl, rfl⟩)
    | (go_at_call 15; (with_reducible refine (over_nil _).mono ?_); rintro e w7 ⟨rfl, hg7⟩; have H17 := Lib.hid (H14.out.grown hg7); have hr := range_grown HK4.out hg7 (by simp); clear hg7)
    | (go_at_call 8; (with_reducible refine (new0 _).mono ?_); rintro e w6 ⟨rfl, rfl⟩))
  rw [HT.out.1]
  go_wp2_with (first
    | (go_at_call 10; (with_reducible refine (begin_nil _ _ _).mono ?_); rintro e w8 ⟨rfl, hg8⟩; have H18 := Lib.hid (H17.out.grown hg8); clear hg8)
    | (go_at_call 14; (with_reducible refine (fail_nil _ _).mono ?_); rintro e w6 ⟨rfl, rfl⟩)
    | (go_at_call 16; (with_reducible refine (asked_nil _ _ _).mono ?_); rintro e w6 ⟨rfl, rfl⟩)
    | (go_at_call 17; (with_reducible refine (refused_nil _ _).mono ?_); rintro e w9 ⟨rfl, hg9⟩; have H19 := Lib.hid (H18.out.grown hg9); clear hg9)
    | (go_at_call 18; (with_reducible refine (depth_nil _).mono ?_); rintro e w6 ⟨rfl, rfl⟩)
    | (go_at_call 19; (with_reducible refine (failing_nil _).mono ?_); rintro e w6 ⟨rfl, rfl⟩)
    | (go_at_call 13; (with_reducible refine (stamp_nil _).mono ?_); rintro e w6 ⟨rfl, rfl⟩)
    | (go_at_call 20; (with_reducible refine (flag_nil _).mono ?_); rintro e w6 ⟨rfl, rfl⟩)
    | (go_at_call 21; (with_reducible refine (copy_nil _).mono ?_); rintro e w6 ⟨rfl, rfl⟩))
  go_ret
  exact ⟨rfl, H19.out.gr⟩
end Go.Proofs.Ytkpgajegmomihaa.de
