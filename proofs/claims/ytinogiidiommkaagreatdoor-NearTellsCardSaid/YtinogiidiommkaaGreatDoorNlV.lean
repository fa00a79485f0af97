/-
  The law NearAsks returns true: the walk. Conditions: the tables of bounds and of kinds lie in their variables as the program's text has them; that the script lies where the argument says.
-/
import Derived.Test.YtinogiidiommkaaGreatDoorNlU
namespace Go.Proofs.YtinogiidiommkaaGreatDoor.nl
open Go Go.ChangeShapes Go.WideShapes Go.ChangeAt Go.RowKit Go.Shelf
open Go.Proofs.YtinogiidiommkaaGreatDoor.nr
open Go.Proofs.YtinogiidiommkaaGreatDoor.tt (OpX opc OpsAt cfg_at CfgAt Cfg Nt na nt zn bare zd fits row tyne lt_of U Tab TabK grown_refl grown_trans grown_alloc grown_setCells grown_drew grown_drewN yes Sl Next flat)
open Go.Proofs.YtinogiidiommkaaGreatDoor.kk (Ln St zl la ln cfind cdrop cuse cgoes cwrite cturn cput setAt setOf live fF Shp Cac Kept)
open Go.Proofs.YtinogiidiommkaaGreatDoor.bk (Bk rem kills puts putE fd fl Nd Rg dead fresh BkAt)
open Go.Proofs.YtinogiidiommkaaGreatDoor.mrk (Ms rdS wrS meets addE Dom MkAt)
open Go.Proofs.YtinogiidiommkaaGreatDoor.de (Dl sT gE rF aD LAt)
open Go.Proofs.YtinogiidiommkaaGreatDoor.oo (ref)
set_option linter.unusedVariables false
set_option maxRecDepth 1000000
set_option maxHeartbeats 4000000

set_option maxHeartbeats 64000000

theorem neq_self (x : Nt) : ∀ w, (binOp .neq 37 (.agg (na x)) (.agg (na x))).run Tryz.prog w = .ok (.bool false) w := fun w => by rw [tt.q31n, decide_eq_true rfl]; rfl
theorem asks_long (c : Cfg) (core : Int) (ad : Option Addr) (len cap : Nat) (w : World) (hT : Tb w) (h : 300 < len) : Calls Tryz.prog 7 #[.agg c.cells, .int .i64 core, .slice ad len cap] w fun e w' => e = .returned (.bool true) ∧ w.grownBy w' none := by
  have hd : decide ((300 : Int) < (len : Int)) = true := by simp; omega
  have hg0 : w.grownBy (w.alloc (.cells c.cells 27)) none := grown_alloc (grown_refl _ _) _
  have HW := Lib.hid (works_any _ (hT.grown hg0))
  have HG0 := Lib.hid hg0
  clear hT h hg0
  unfold Cfg.cells at *
  go_enter Tryz.func7, Tryz.ntmps7
  go_wp2_with (go_at_call 10; ((with_reducible refine HW.out.mono ?_); rintro e w3 ⟨rfl, hg3⟩; have HG3 := Lib.hid hg3; clear hg3))
  go_ret
  exact ⟨rfl, grown_trans HG0.out HG3.out⟩
theorem asks_no (c : Cfg) (core : Int) (ad : Option Addr) (len cap : Nat) (w : World) (hT : Tb w) (h : len ≤ 300) (hm : ¬ (c.may ∧ 0 ≤ core ∧ core < c.co)) : Calls Tryz.prog 7 #[.agg c.cells, .int .i64 core, .slice ad len cap] w fun e w' => e = .returned (.bool true) ∧ w.grownBy w' none := by
  have hd : decide ((300 : Int) < (len : Int)) = false := by simp; omega
  have hg0 : w.grownBy (w.alloc (.cells c.cells 27)) none := grown_alloc (grown_refl _ _) _
  obtain ⟨ec, hec, HN0⟩ : ∃ ec : Int, (ec != 0) = true ∧ Calls Tryz.prog 8 #[.agg c.cells, .int .i64 core] (w.alloc (.cells c.cells 27)) fun e w' => e = .returned (.tuple #[.pointer none, .int .i64 ec]) ∧ (w.alloc (.cells c.cells 27)).grownBy w' none := by
    by_cases hc : c.may
    · exact ⟨5, rfl, new_range c core _ (hT.grown hg0) hc (by by_cases h0 : core < 0; exact .inl h0; exact .inr (by have : ¬ (0 ≤ core ∧ core < c.co) := fun e => hm ⟨hc, e⟩; omega))⟩
    · exact ⟨2, rfl, new_arg c core _ (hT.grown hg0) hc⟩
  have HN := Lib.hid HN0
  have HW : Hid (∀ w', w.grownBy w' none → _) := Lib.hid (fun w' h => works_any w' (hT.grown h))
  obtain ⟨c0, c1, c2, c3, c4, c5, c6, c7⟩ := cfg_at w c
  have HG0 := Lib.hid hg0
  clear hT h hm hg0 HN0
  unfold Cfg.cells at HN HG0 c0 c1 c2 c3 c4 c5 c6 c7 ⊢
  go_enter Tryz.func7, Tryz.ntmps7
  go_wp2_with (first
    | (go_at_call 8; ((with_reducible refine HN.out.mono ?_); rintro e w2 ⟨rfl, hg2⟩; have HG2 := Lib.hid (grown_trans HG0.out hg2); clear hg2))
    | (go_at_call 10; ((with_reducible refine (HW.out _ HG2.out).mono ?_); rintro e w3 ⟨rfl, hg3⟩; have HG3 := Lib.hid (grown_trans HG2.out hg3); clear hg3)))
  go_ret
  exact ⟨rfl, HG3.out⟩
end Go.Proofs.YtinogiidiommkaaGreatDoor.nl
