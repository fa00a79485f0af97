/-
  What Room, fits, Send, Take, Copy of a net answer, and the net behind these: contracts. Condition: the tables of bounds and of kinds lie in their variables as the program's text has them.
-/
import Derived.Test.YtoemkhmbeiindaaDoorNr
import Derived.Test.YtoemkhmbeiindaaDoorNf
namespace Go.Proofs.YtoemkhmbeiindaaDoor.tt
open Go Go.ChangeShapes Go.WideShapes Go.ChangeAt Go.RowKit
set_option linter.unusedVariables false

theorem isOf_any (node qn : Int) (w : World) : Calls Tryd.prog 39 #[.int .i64 node, .int .i64 qn] w fun e w' => ∃ bn bt, e = .returned (.func (.func 59) #[] #[.pointer (some ⟨bn, 0, none⟩), .pointer (some ⟨bt, 0, none⟩)]) ∧ w'.cell? ⟨bn, 0, none⟩ = some (.int .i64 node) ∧ w'.cell? ⟨bt, 0, none⟩ = some (.int .i64 qn) ∧ w.grownBy w' none := by
  have h1 : ((w.alloc (.cells #[.int .i64 node] 3)).alloc (.cells #[.int .i64 qn] 3)).cell? ⟨w.heap.size, 0, none⟩ = some (.int .i64 node) := (grown_alloc (grown_refl (w.alloc (.cells #[.int .i64 node] 3)) none) _).cell ((cell_of_row _ _ _ _ _ _ (heap_alloc_new w (.cells #[.int .i64 node] 3))).trans rfl) (by simp)
  have h2 : ((w.alloc (.cells #[.int .i64 node] 3)).alloc (.cells #[.int .i64 qn] 3)).cell? ⟨w.heap.size + 1, 0, none⟩ = some (.int .i64 qn) := by
    have := heap_alloc_new (w.alloc (.cells #[.int .i64 node] 3)) (.cells #[.int .i64 qn] 3)
    rw [World.size_alloc] at this
    exact (cell_of_row _ _ _ _ _ _ this).trans rfl
  have H1 := Lib.hid h1
  have H2 := Lib.hid h2
  clear h1 h2
  go_enter Tryd.func39, Tryd.ntmps39
  go_wp2
  go_ret
  exact ⟨_, _, rfl, H1.out, H2.out, grown_alloc (grown_alloc (grown_refl _ _) _) _⟩

theorem keep_gr {wz wx wy : World} {p : World → Prop} (H : Hid (∀ w', wz.grownBy w' none → p w')) (h : p wx ∧ wz.grownBy wx none) (k : wx.grownBy wy none) : p wy ∧ wz.grownBy wy none :=
  ⟨H.out _ (grown_trans h.2 k), grown_trans h.2 k⟩
section
variable (t p : Nat) (c : Cfg) (r : Nat) (v : Value) (ns : List Nt) (h : Int) (w : World) (H : NetAt w t p c r v ns h)
include H
set_option maxRecDepth 100000 in
set_option maxHeartbeats 1000000 in
theorem nroom_out (node qn : Int) (hb : ¬ isPool c node qn) : Calls Tryd.prog 18 #[.pointer (some ⟨t, 0, none⟩), .int .i64 node, .int .i64 qn] w fun e w' => e = .returned (.int .i64 0) ∧ w.grownBy w' none := by
  have c0 := H.c0
  unfold isPool at hb
  have h3 : node < -1 ∨ ¬ node < -1 ∧ (c.co ≤ node ∨ ¬ c.co ≤ node ∧ (qn < 0 ∨ ¬ qn < 0 ∧ 3 ≤ qn)) := by omega
  clear H hb
  rcases h3 with h1 | ⟨h1, h1' | ⟨h1', h2 | ⟨h2, h3⟩⟩⟩
  · go_enter Tryd.func18, Tryd.ntmps18
    go_wp2
    go_ret
    exact ⟨rfl, grown_refl _ _⟩
  · have e1 : decide (node < -1) = false := by simpa using h1
    have e2 : decide (c.co ≤ node) = true := by simpa using h1'
    clear h1 h1'
    go_enter Tryd.func18, Tryd.ntmps18
    go_wp2
    go_ret
    exact ⟨rfl, grown_refl _ _⟩
  · have e1 : decide (node < -1) = false := by simpa using h1
    have e2 : decide (c.co ≤ node) = false := by simpa using h1'
    have e3 : decide (qn < 0) = true := by simpa using h2
    clear h1 h1' h2
    go_enter Tryd.func18, Tryd.ntmps18
    go_wp2
    go_ret
    exact ⟨rfl, grown_refl _ _⟩
  · have e1 : decide (node < -1) = false := by simpa using h1
    have e2 : decide (c.co ≤ node) = false := by simpa using h1'
    have e3 : decide (qn < 0) = false := by simpa using h2
    have e4 : decide (3 ≤ qn) = true := by simpa using h3
    clear h1 h1' h2 h3
    go_enter Tryd.func18, Tryd.ntmps18
    go_wp2
    go_ret
    exact ⟨rfl, grown_refl _ _⟩
set_option maxRecDepth 100000 in
set_option maxHeartbeats 1000000 in
theorem nroom_in (node qn : Int) (hb : isPool c node qn) : Calls Tryd.prog 18 #[.pointer (some ⟨t, 0, none⟩), .int .i64 node, .int .i64 qn] w fun e w' => e = .returned (.int .i64 ((r : Int) - (many ns node qn : Int))) ∧ w.grownBy w' none := by
  have c0 := H.c0
  have c8 := H.c8
  have e1 : decide (node < -1) = false := by simpa using hb.1.1
  have e2 : decide (c.co ≤ node) = false := by simpa using hb.1.2
  have e3 : decide (qn < 0) = false := by simpa using hb.2.1
  have e4 : decide (3 ≤ qn) = false := by simpa using hb.2.2
  have HH := Lib.hid H
  have hr1 := H.inv.r2
  have hm := H.inv.room node qn
  obtain ⟨q, hq⟩ : ∃ q, q = many ns node qn := ⟨_, rfl⟩
  have HQ := Lib.hid hq
  have HK : Hid (∀ w', w.grownBy w' none → w'.cell? ⟨t, 8, none⟩ = some (.int .i64 (r : Int))) := Lib.hid fun w' h => (HH.out.grown h).c8
  rw [← hq] at hm ⊢
  have HWR : Hid (IntKind.i64.wrap ((r : Int) - (q : Int)) = (r : Int) - (q : Int)) := Lib.hid (IntWalk.i64_in _ (by omega))
  clear H hb hq
  go_enter Tryd.func18, Tryd.ntmps18
  go_wp2_with fail
  go_region_held3 (fun w' => w'.cell? ⟨t, 8, none⟩ = some (.int .i64 (r : Int)) ∧ w.grownBy w' none) (first | exact ⟨HK.out _ (grown_refl _ _), grown_refl _ _⟩ | exact ⟨HK.out _ (grown_drew (grown_refl _ _)), grown_drew (grown_refl _ _)⟩ | assumption | exact keep_gr HK (by assumption) (by assumption) | exact keep_gr HK (by assumption) (grown_drew (grown_refl _ _))) (first
      | (go_at_call 39; ((refine (isOf_any node qn _).mono ?_); rintro e w9 ⟨bn, bt, rfl, hbn, hbt, hg9⟩))
      | (go_at_call 38; ((refine (many_any t p r c v ns h node qn bn bt _ (HH.out.grown (And.right (by assumption : _ ∧ w.grownBy _ none))) hbn hbt).mono ?_); rw [← HQ.out]; rintro e w10 ⟨rfl, hg10⟩)))
  all_goals
    (have HF := Lib.hid (And.right (by assumption : _ ∧ w.grownBy w10 none))
     rw [HWR.out]
     go_wp2_with fail
     go_ret
     exact ⟨rfl, HF.out⟩)
theorem nroom_any (node qn : Int) : Calls Tryd.prog 18 #[.pointer (some ⟨t, 0, none⟩), .int .i64 node, .int .i64 qn] w fun e w' => e = .returned (.int .i64 (roomOf c r ns node qn)) ∧ w.grownBy w' none := by
  unfold roomOf
  by_cases hb : isPool c node qn
  · rw [if_pos hb]; exact nroom_in t p c r v ns h w H node qn hb
  · rw [if_neg hb]; exact nroom_out t p c r v ns h w H node qn hb
end
end Go.Proofs.YtoemkhmbeiindaaDoor.tt
