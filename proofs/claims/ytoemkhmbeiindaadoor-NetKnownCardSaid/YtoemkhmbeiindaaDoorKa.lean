/-
  The law NetKnown returns true: the walk. Condition: the tables of bounds and of kinds lie in their variables as the program's text has them.
-/
import Derived.Test.YtoemkhmbeiindaaDoorWb
namespace Go.Proofs.YtoemkhmbeiindaaDoor.tt
open Go Go.ChangeShapes Go.WideShapes Go.ChangeAt Go.RowKit Go.Shelf
set_option linter.unusedVariables false

theorem nil_len (w : World) : Calls Tryd.prog 17 #[.pointer none] w fun e w' => e = .returned (.int .i64 0) ∧ w = w' := by
  go_enter Tryd.func17, Tryd.ntmps17
  go_wp2
  go_ret
  exact ⟨rfl, rfl⟩
theorem nil_hops (w : World) : Calls Tryd.prog 15 #[.pointer none] w fun e w' => e = .returned (.int .i64 0) ∧ w = w' := by
  go_enter Tryd.func15, Tryd.ntmps15
  go_wp2
  go_ret
  exact ⟨rfl, rfl⟩
theorem nil_room (a b : Int) (w : World) : Calls Tryd.prog 18 #[.pointer none, .int .i64 a, .int .i64 b] w fun e w' => e = .returned (.int .i64 0) ∧ w.grownBy w' none := by
  go_enter Tryd.func18, Tryd.ntmps18
  go_wp2
  go_ret
  exact ⟨rfl, by first | exact grown_refl _ _ | exact grown_alloc (grown_refl _ _) _⟩
theorem nil_copy (w : World) : Calls Tryd.prog 19 #[.pointer none] w fun e w' => e = .returned (.pointer none) ∧ w = w' := by
  go_enter Tryd.func19, Tryd.ntmps19
  go_wp2
  go_ret
  exact ⟨rfl, rfl⟩
theorem nil_send (n : Nt) (w : World) : Calls Tryd.prog 12 #[.pointer none, .agg (na n)] w fun e w' => e = .returned (.int .i64 1) ∧ w.grownBy w' none := by
  go_enter Tryd.func12, Tryd.ntmps12
  go_wp2
  go_ret
  exact ⟨rfl, by first | exact grown_refl _ _ | exact grown_alloc (grown_refl _ _) _⟩
theorem nil_take (i : Int) (w : World) : Calls Tryd.prog 14 #[.pointer none, .int .i64 i] w fun e w' => e = .returned (.tuple #[.agg (na zn), .int .i64 1]) ∧ w.grownBy w' none := by
  have HZ : Hid (na zn = _) := Lib.hid (bare_na 0 0 0 0 0 0 false false)
  go_enter Tryd.func14, Tryd.ntmps14
  go_wp2_with ((with_reducible refine store_lit _ _ HZ.out _ _ _ ?_ ?_ ?_ ?_); (rfl); (rfl); (rfl))
  exact ret_nte rfl _ zn _ w.heap.size _ _ (by rfl) (by rfl) (range_of (heap_alloc_new w (.cells (na zn) 37))) ⟨rfl, grown_alloc (grown_refl _ _) _⟩
theorem nil_at (i : Int) (w : World) : Calls Tryd.prog 16 #[.pointer none, .int .i64 i] w fun e w' => e = .returned (.tuple #[.agg (na zn), .int .i64 1]) ∧ w.grownBy w' none := by
  have HZ : Hid (na zn = _) := Lib.hid (bare_na 0 0 0 0 0 0 false false)
  go_enter Tryd.func16, Tryd.ntmps16
  go_wp2_with ((with_reducible refine store_lit _ _ HZ.out _ _ _ ?_ ?_ ?_ ?_); (rfl); (rfl); (rfl))
  exact ret_nte rfl _ zn _ w.heap.size _ _ (by rfl) (by rfl) (range_of (heap_alloc_new w (.cells (na zn) 37))) ⟨rfl, grown_alloc (grown_refl _ _) _⟩
theorem nil_send0 (w : World) : Calls Tryd.prog 12 #[.pointer none, .agg #[.int .u8 0, .int .i64 0, .int .i64 0, .int .i64 0, .int .u64 0, .int .u8 0, .bool false, .bool false, .int .u32 0, .int .u32 0, .int .u32 0, .int .u32 0, .int .u32 0, .int .u32 0, .int .u32 0, .int .u32 0, .int .u32 0, .int .u32 0, .int .u32 0, .int .u32 0, .int .u32 0, .int .u32 0, .int .u32 0, .int .u32 0]] w fun e w' => e = .returned (.int .i64 1) ∧ w.grownBy w' none := nil_send zn w

theorem q1 : sendE c2 1 [upn 1 1 5, upn 11 0 6] (upn 1 2 0) = 2 := by decide +kernel
theorem m1 : sendE c2 1 [upn 1 1 5] (upn 11 0 6) = 0 ∧ sendN c2 1 [upn 1 1 5] (upn 11 0 6) = [upn 1 1 5, upn 11 0 6] := k3
theorem m2 : sendE c2 1 [upn 1 1 5] (upn 1 2 0) = 2 ∧ sendN c2 1 [upn 1 1 5] (upn 1 2 0) = [upn 1 1 5] := by decide +kernel
theorem m3 : sendE c2 1 [upn 1 1 5] (upn 1 0 8) = 2 ∧ sendN c2 1 [upn 1 1 5] (upn 1 0 8) = [upn 1 1 5] := by decide +kernel
set_option maxRecDepth 1000000 in
set_option maxHeartbeats 4000000 in
theorem known_true (w : World) (hT : Tab w) (hK : TabK w) : Calls Tryd.prog 3 #[] w fun e w' => e = .returned (.bool true) ∧ w.grownBy w' none := by
  have HT := Lib.hid hT
  have HK := Lib.hid hK
  have HP := Lib.hid (two_any w)
  have HN : Hid (∀ w', w.grownBy w' none → _) := Lib.hid (fun w' h => own_new1 w' (hT.grown h))
  have HW : Hid (∀ w', w.grownBy w' none → _) := Lib.hid (fun w' h => works_any w' (hT.grown h) (hK.grown h))
  have hz0 : (0 : Int) + far (upn 11 0 6) = 1 := by rw [k4]; rfl
  have HZ0 := Lib.hid hz0
  clear hT hK hz0
  go_enter Tryd.func3, Tryd.ntmps3
  go_wp2_with (first
    | (go_at_call 10; ((with_reducible refine HP.out.mono ?_); rintro e w0 ⟨rfl, hg0⟩; have HG0 := Lib.hid hg0; clear hg0))
    | (go_at_call 9; ((with_reducible refine (HN.out _ HG0.out).mono ?_); rintro e w1 ⟨t, p, rfl, ho1⟩; have H1 := Lib.hid (ho1.from HG0.out); clear ho1))
    | (go_at_call 11; ((with_reducible refine (HW.out _ H1.out.old).mono ?_); rintro e wq ⟨rfl, hgq⟩; have HQ := Lib.hid (H1.out.grown hgq); clear hgq H1))
    | (go_at_call 13; ((with_reducible refine (up_any 1 1 5 _).mono ?_); rintro e w2 ⟨rfl, hg2⟩; have H2 := Lib.hid (HQ.out.grown hg2); clear hg2 HQ))
    | (go_at_call 12; ((with_reducible refine (own_send HT.out HK.out H2.out _).mono ?_); rintro e w3 ⟨he, v3, ho3, hx⟩; clear hx; (rw [k1.1] at he); (rw [k1.2] at ho3); subst he; have H3 := Lib.hid ho3; clear ho3 H2))
    | (go_at_call 13; ((with_reducible refine (up_any 11 0 6 _).mono ?_); rintro e w6 ⟨rfl, hg6⟩; have H6 := Lib.hid (H3.out.grown hg6); clear hg6 H3))
    | (go_at_call 12; ((with_reducible refine (own_send HT.out HK.out H6.out _).mono ?_); rintro e w7 ⟨he, v7, ho7, hx⟩; clear hx; (rw [k3.1] at he); (rw [k3.2] at ho7); subst he; have H7 := Lib.hid ho7; clear ho7 H6))
    | (go_at_call 14; ((with_reducible refine (own_takeI H7.out 1 1 rfl (upn 11 0 6) rfl (by omega) (by omega)).mono ?_); rintro e w9 ⟨rfl, v9, ho9, hx⟩; clear hx; (rw [HZ0.out] at ho9); have H9 := Lib.hid (ho9.grown (grown_alloc (grown_refl _ _) (.cells (na (upn 11 0 6)) 37))); clear ho9 H7))
    | ((with_reducible refine store_new (upn 11 0 6) _ _ _ ?_ ?_ ?_ ?_); (rfl); (rfl); (rfl))
    | (go_at_call 14; ((with_reducible refine (own_take_out H9.out 1 (.inr (by simp))).mono ?_); rintro e w10 ⟨rfl, hg10⟩; have H10 := Lib.hid (H9.out.grown (grown_alloc hg10 (.cells (na zn) 37))); clear hg10 H9))
    | ((with_reducible refine store_new zn _ _ _ ?_ ?_ ?_ ?_); (rfl); (rfl); (rfl))
    | (go_at_call 15; ((with_reducible refine (own_hops H10.out).mono ?_); rintro e w11 ⟨rfl, rfl⟩))
    | (go_at_call 13; ((with_reducible refine (up_any 1 2 0 _).mono ?_); rintro e w12 ⟨rfl, hg12⟩; have H12 := Lib.hid (H10.out.grown hg12); clear hg12 H10))
    | (go_at_call 12; ((with_reducible refine (own_send HT.out HK.out H12.out _).mono ?_); rintro e w13 ⟨he, v13, ho13, hx⟩; clear hx; (change e = .returned (.int .i64 (sendE c2 1 [upn 1 1 5] (upn 1 2 0))) at he); (change Own w w13 t p c2 1 v13 (sendN c2 1 [upn 1 1 5] (upn 1 2 0)) 1 at ho13); (rw [m2.1] at he); (rw [m2.2] at ho13); subst he; have H13 := Lib.hid ho13; clear ho13 H12))
    | (go_at_call 13; ((with_reducible refine (up_any 1 0 8 _).mono ?_); rintro e w14 ⟨rfl, hg14⟩; have H14 := Lib.hid (H13.out.grown hg14); clear hg14 H13))
    | (go_at_call 12; ((with_reducible refine (own_send HT.out HK.out H14.out _).mono ?_); rintro e w15 ⟨he, v15, ho15, hx⟩; clear hx; (rw [m3.1] at he); (rw [m3.2] at ho15); subst he; have H15 := Lib.hid ho15.old; clear ho15 H14))
    | (go_at_call 14; ((with_reducible refine (nil_take 0 _).mono ?_); rintro e w16 ⟨rfl, hg16⟩; have H16 := Lib.hid (grown_trans H15.out hg16); clear hg16 H15))
    | (go_at_call 16; ((with_reducible refine (nil_at 0 _).mono ?_); rintro e w17 ⟨rfl, hg17⟩; have H17 := Lib.hid (grown_trans H16.out hg17); clear hg17 H16))
    | (go_at_call 12; ((with_reducible refine (nil_send0 _).mono ?_); rintro e w18 ⟨rfl, hg18⟩; have H18 := Lib.hid (grown_trans H17.out hg18); clear hg18 H17))
    | (go_at_call 17; ((with_reducible refine (nil_len _).mono ?_); rintro e w19 ⟨rfl, rfl⟩))
    | (go_at_call 15; ((with_reducible refine (nil_hops _).mono ?_); rintro e w20 ⟨rfl, rfl⟩))
    | (go_at_call 18; ((with_reducible refine (nil_room 0 0 _).mono ?_); rintro e w21 ⟨rfl, hg21⟩; have H21 := Lib.hid (grown_trans H18.out hg21); clear hg21 H18))
    | (go_at_call 19; ((with_reducible refine (nil_copy _).mono ?_); rintro e w22 ⟨rfl, rfl⟩)))
  go_ret
  exact ⟨rfl, H21.out⟩
end Go.Proofs.YtoemkhmbeiindaaDoor.tt
