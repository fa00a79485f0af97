/-
  The laws' own save and works: contracts. No condition.
-/
import Derived.Test.YtkpgajegmomihaaDeJ
namespace Go.Proofs.Ytkpgajegmomihaa.de
open Go Go.ChangeShapes Go.WideShapes Go.ChangeAt Go.RowKit
open Go.Proofs.Ytkpgajegmomihaa.tt (U zd row tyne add_lit lt_of range_grown setCells_rest heap_setCells heap_setCells_other grown_setCells grown_setRow grown_new grown_drewN below_of grown_alloc grown_refl grown_trans grown_drew)
open Go.Proofs.Ytkpgajegmomihaa.oo (ref flag' gives older ret_bool jump_ret)
set_option linter.unusedVariables false
set_option maxRecDepth 1000000

/-- What is saved for a number. -/
def sN (n : Int) : Sv := ⟨[0, n % 4294967296, 0, 0, 0, 0, 0, 0, 0, 0, 0, 0, 0, 0, 0, 0], n, rfl⟩
theorem save_any (n : Int) (w : World) : Calls Try.prog 11 #[.int .i64 n] w fun e w' => e = .returned (.agg (sa (sN n))) ∧ w.grownBy w' none := by
  obtain ⟨S, hS⟩ : ∃ S, S = sN n := ⟨_, rfl⟩
  have hA : #[.int .u32 0, .int .u32 (n % 4294967296), .int .u32 0, .int .u32 0, .int .u32 0, .int .u32 0, .int .u32 0, .int .u32 0, .int .u32 0, .int .u32 0, .int .u32 0, .int .u32 0, .int .u32 0, .int .u32 0, .int .u32 0, .int .u32 0, .int .i64 n] = sa S := by rw [hS]; rfl
  have HS := Lib.hid hS
  clear hS
  go_enter Try.func11, Try.ntmps11
  go_wp2_with (first
    | ((with_reducible refine store_svN S _ _ _ ?_ ?_ ?_ ?_); ((rfl)); ((rfl)); ((rfl))))
  refine ret_sv1 rfl _ S w.heap.size _ _ rfl (sv_new w S _) ?_
  rw [HS.out]
  exact ⟨rfl, grown_alloc (grown_refl _ _) _⟩

/-- The landed deal d, as it has come from w0 on. -/
structure Lw (w0 w : World) (g : Nat) (d : Dl) : Prop where
  at_ : LAt w g d
  inv : Inv d
  gr : w0.grownBy w none
  ge : w0.heap.size ≤ g
section
variable {w0 w w' : World} {g : Nat} {d d' : Dl}
theorem Lw.step (h : Lw w0 w g d) (h' : LAt w' g d') (I : Inv d') (hg : w.grownBy w' (some g)) : Lw w0 w' g d' := ⟨h', I, grown_new h.gr h.ge hg, h.ge⟩
theorem Lw.grown (h : Lw w0 w g d) (hg : w.grownBy w' none) : Lw w0 w' g d := ⟨h.at_.grown hg (by simp), h.inv, grown_trans h.gr hg, h.ge⟩
theorem Lw.new (n : Int) (w0 w : World) (hg : w0.grownBy w none) (h1 : 1 ≤ n) (h8 : n ≤ 8) : Calls Try.prog 8 #[.int .i64 n] w fun e w' => ∃ g, e = .returned (.tuple #[.pointer (some ⟨g, 0, none⟩), .int .i64 0]) ∧ Lw w0 w' g (nw n) ∧ w.grownBy w' none ∧ w.heap.size ≤ g :=
  (new_ok n w h1 h8).mono fun e w' ⟨k1, k2, k3⟩ => ⟨_, k1, ⟨k2, Inv.nw h1 h8, grown_trans hg k3, hg.size⟩, k3, Nat.le_refl _⟩
theorem Lw.begin_ (h : Lw w0 w g d) (s : Sv) (x : Int) (hx : 0 ≤ x) : Calls Try.prog 10 #[.pointer (some ⟨g, 0, none⟩), .agg (sa s), .int .u64 x] w fun e w' => e = .returned (.int .i64 (bE d x)) ∧ Lw w0 w' g (bD d s x) ∧ w.grownBy w' (some g) :=
  (begin_any h.at_ s x h.inv.d0 (Int.le_trans h.inv.dn h.inv.n8)).mono fun e w' ⟨k1, k2, k3⟩ => ⟨k1, h.step k2 (h.inv.bD hx) k3, k3⟩
theorem Lw.end_ (h : Lw w0 w g d) : Calls Try.prog 12 #[.pointer (some ⟨g, 0, none⟩)] w fun e w' => e = .returned (.tuple #[.bool (eC d), .int .i64 (gE d)]) ∧ Lw w0 w' g (eD d) ∧ w.grownBy w' (some g) :=
  (end_any h.at_ h.inv.d0 (Int.le_trans h.inv.dn h.inv.n8)).mono fun e w' ⟨k1, k2, k3⟩ => ⟨k1, h.step k2 h.inv.eD k3, k3⟩
theorem Lw.fail_ (h : Lw w0 w g d) (c : Int) (h0 : 0 ≤ c) (h1 : c < 4294967296) : Calls Try.prog 14 #[.pointer (some ⟨g, 0, none⟩), .int .u32 c] w fun e w' => e = .returned (.int .i64 (gE d)) ∧ Lw w0 w' g (fD d c) ∧ w.grownBy w' (some g) :=
  (fail_any h.at_ c).mono fun e w' ⟨k1, k2, k3⟩ => ⟨k1, h.step k2 (h.inv.fD h0 h1) k3, k3⟩
theorem Lw.over (h : Lw w0 w g d) : Calls Try.prog 15 #[.pointer (some ⟨g, 0, none⟩)] w fun e w' => e = .returned (.tuple #[.agg (sa (oS d)), .int .u32 (oC d), .int .i64 (oE d)]) ∧ Lw w0 w' g (oD d) ∧ w.grownBy w' (some g) :=
  (over_any h.at_).mono fun e w' ⟨k1, k2, k3⟩ => ⟨k1, h.step k2 h.inv.oD k3, k3⟩
theorem Lw.asked (h : Lw w0 w g d) (m : Bool) (x : Int) : Calls Try.prog 16 #[.pointer (some ⟨g, 0, none⟩), .bool m, .int .u64 x] w fun e w' => e = .returned (.bool (ref (sT d) m)) ∧ Lw w0 w' g (aD d m x) ∧ w.grownBy w' (some g) :=
  (asked_any h.at_ m x).mono fun e w' ⟨k1, k2, k3⟩ => ⟨k1, h.step k2 (h.inv.aD m x) k3, k3⟩
theorem Lw.copy (h : Lw w0 w g d) : Calls Try.prog 21 #[.pointer (some ⟨g, 0, none⟩)] w fun e w' => ∃ g', e = .returned (.pointer (some ⟨g', 0, none⟩)) ∧ Lw w0 w' g' d ∧ Lw w0 w' g d ∧ g' ≠ g ∧ w.heap.size ≤ g' ∧ w.grownBy w' none :=
  (copy_any h.at_).mono fun e w' ⟨k1, k2, k3⟩ => ⟨_, k1, ⟨k2, h.inv, grown_trans h.gr k3, h.gr.size⟩, h.grown k3, Nat.ne_of_gt h.at_.lt, Nat.le_refl _, k3⟩
theorem Lw.refused (h : Lw w0 w g d) (x : Int) : Calls Try.prog 17 #[.pointer (some ⟨g, 0, none⟩), .int .u64 x] w fun e w' => e = .returned (.bool (rF d x)) ∧ Lw w0 w' g d ∧ w.grownBy w' none :=
  (refused_any h.at_ x).mono fun e w' ⟨k1, n, k2⟩ => ⟨k1, k2 ▸ h.grown (grown_drewN (grown_refl _ _) _), k2 ▸ grown_drewN (grown_refl _ _) _⟩
end

def D1 : Dl := ⟨2, 1, sN 1, 7, false, false, 0⟩
def D2 : Dl := ⟨2, 2, sN 1, 7, false, false, 0⟩
section
variable {w0 w : World} {g : Nat}
theorem b1 (h : Lw w0 w g (nw 2)) : Calls Try.prog 10 #[.pointer (some ⟨g, 0, none⟩), .agg (sa (sN 1)), .int .u64 7] w fun e w' => e = .returned (.int .i64 0) ∧ Lw w0 w' g D1 ∧ w.grownBy w' (some g) := h.begin_ (sN 1) 7 (by decide)
theorem b2 (h : Lw w0 w g D1) : Calls Try.prog 10 #[.pointer (some ⟨g, 0, none⟩), .agg (sa (sN 2)), .int .u64 8] w fun e w' => e = .returned (.int .i64 0) ∧ Lw w0 w' g D2 ∧ w.grownBy w' (some g) := h.begin_ (sN 2) 8 (by decide)
theorem b3 (h : Lw w0 w g D2) : Calls Try.prog 10 #[.pointer (some ⟨g, 0, none⟩), .agg (sa (sN 2)), .int .u64 9] w fun e w' => e = .returned (.int .i64 7) ∧ Lw w0 w' g D2 ∧ w.grownBy w' (some g) := h.begin_ (sN 2) 9 (by decide)
theorem depth2 (h : Lw w0 w g D2) : Calls Try.prog 18 #[.pointer (some ⟨g, 0, none⟩)] w fun e w' => e = .returned (.int .i64 2) ∧ w = w' := depth_any h.at_
theorem stamp7 (h : Lw w0 w g D2) : Calls Try.prog 13 #[.pointer (some ⟨g, 0, none⟩)] w fun e w' => e = .returned (.int .u64 7) ∧ w = w' := stamp_any h.at_
theorem new2 (w0 w : World) (hg : w0.grownBy w none) : Calls Try.prog 8 #[.int .i64 2] w fun e w' => ∃ g, e = .returned (.tuple #[.pointer (some ⟨g, 0, none⟩), .int .i64 0]) ∧ Lw w0 w' g (nw 2) ∧ w.grownBy w' none ∧ w.heap.size ≤ g := Lw.new 2 w0 w hg (by decide) (by decide)
end
theorem works_any (w : World) : Calls Try.prog 9 #[] w fun e w' => e = .returned (.bool true) ∧ w.grownBy w' none := by
  have HN := Lib.hid (new2 w w (grown_refl _ _))
  have HS : Hid (∀ n w, _) := Lib.hid save_any
  go_enter Try.func9, Try.ntmps9
  go_wp2_with (first
    | (go_at_call 8; (with_reducible refine HN.out.mono ?_); rintro e w1 ⟨g, rfl, h1, _, _⟩; have H0 := Lib.hid h1; clear h1)
    | (go_at_call 11; (with_reducible refine (HS.out 1 _).mono ?_); rintro e w2 ⟨rfl, h2⟩; have H0a := Lib.hid (H0.out.grown h2); clear h2 H0)
    | (go_at_call 11; (with_reducible refine (HS.out 2 _).mono ?_); rintro e w2 ⟨rfl, h2⟩; first | (have H1a := Lib.hid (H1.out.grown h2); clear h2 H1) | (have H2a := Lib.hid (H2.out.grown h2); clear h2 H2))
    | (go_at_call 10; first
       | ((with_reducible refine (b1 H0a.out).mono ?_); rintro e w3 ⟨rfl, h3, _⟩; have H1 := Lib.hid h3; clear h3 H0a)
       | ((with_reducible refine (b2 H1a.out).mono ?_); rintro e w3 ⟨rfl, h3, _⟩; have H2 := Lib.hid h3; clear h3 H1a)
       | ((with_reducible refine (b3 H2a.out).mono ?_); rintro e w3 ⟨rfl, h3, _⟩; have H3 := Lib.hid h3; clear h3 H2a))
    | (go_at_call 18; (with_reducible refine (depth2 H3.out).mono ?_); rintro e w4 ⟨rfl, rfl⟩)
    | (go_at_call 13; (with_reducible refine (stamp7 H3.out).mono ?_); rintro e w4 ⟨rfl, rfl⟩))
  go_ret
  exact ⟨rfl, H3.out.gr⟩
end Go.Proofs.Ytkpgajegmomihaa.de
