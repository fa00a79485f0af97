/-
  The law CodeOne answers true. The tables are as the program's text lays them (Tab).
-/
import Derived.Test.YtncohgcklmogpaaDoorCdN
namespace Go.Proofs.YtncohgcklmogpaaDoor.cd
open Go Go.ChangeShapes Go.WideShapes Go.ChangeAt Go.RowKit
set_option linter.unusedVariables false
set_option maxRecDepth 1000000

set_option maxHeartbeats 2000000 in
theorem one_true (c d : Cd) (w : World) (hT : Tab w) (h8 : c.op < 256) (h9 : d.op < 256) : Calls Tryd.prog 7 #[.agg (ca c), .agg (ca d)] w fun e w' => e = .returned (.bool true) ∧ w.grownBy w' none := by
  obtain ⟨w2, hw2, hg2, hA2, hB2⟩ := twob w (.cells (ca c) 27) (.cells (ca d) 27)
  have HW : Hid (∀ w', w.grownBy w' none → _) := Lib.hid fun w' h => works_any w' (hT.grown h)
  have HP : Hid (∀ w', w.grownBy w' none → _) := Lib.hid fun w' h => put_any c w' (hT.grown h) h8
  have HQ : Hid (∀ w', w.grownBy w' none → _) := Lib.hid fun w' h => put_any d w' (hT.grown h) h9
  have HA : Hid (∀ w', w2.grownBy w' none → _) := Lib.hid fun w' h => cells5 (row_grown hA2 h)
  have HB : Hid (∀ w', w2.grownBy w' none → _) := Lib.hid fun w' h => cells5 (row_grown hB2 h)
  have HW2 := Lib.hid hw2
  have HG := Lib.hid hg2
  clear hT h8 h9 hw2 hg2 hA2 hB2
  have HC : Hid (∀ w, _) := Lib.hid fun w => eqC w c d
  have HI : Hid (may c = true → may d = true → _) := Lib.hid fun h k => wd_inj (c := c) (d := d) h k
  generalize decide (c = d) = s at HC HI
  cases hm : may c
  · rw [hm] at HP
    generalize putw c = x at HP
    generalize err (may d) = E at HQ
    generalize putw d = y at HQ
    clear HI hm HC
    obtain ⟨op, a, b, c, n⟩ := c
    obtain ⟨op', a', b', c', n'⟩ := d
    unfold ca at *
    go_enter Tryd.func7, Tryd.ntmps7
    go_wp2_with (first
      | (go_at_call 8; rw [HW2.out]; ((with_reducible refine (HP.out _ HG.out).mono ?_); rintro e w3 ⟨rfl, hg3⟩; have HZ3 := Lib.hid hg3; have HG3 := Lib.hid (grown_trans HG.out hg3); obtain ⟨c0, c1, c2, c3, c4⟩ := HB.out _ hg3; clear hg3))
      | (go_at_call 8; ((with_reducible refine (HQ.out _ HG3.out).mono ?_); rintro e w4 ⟨rfl, hg4⟩; have HG4 := Lib.hid (grown_trans HG3.out hg4); clear hg4))
      | (go_at_call 10; ((with_reducible refine (HW.out _ HG4.out).mono ?_); rintro e w5 ⟨rfl, hg5⟩; have HG5 := Lib.hid (grown_trans HG4.out hg5); clear hg5)))
    go_ret
    exact ⟨rfl, HG5.out⟩
  · cases hk : may d
    · rw [hm] at HP
      rw [hk] at HQ
      generalize putw c = x at HP
      generalize putw d = y at HQ
      clear HI hm hk HC
      obtain ⟨op, a, b, c, n⟩ := c
      obtain ⟨op', a', b', c', n'⟩ := d
      unfold ca at *
      go_enter Tryd.func7, Tryd.ntmps7
      go_wp2_with (first
        | (go_at_call 8; rw [HW2.out]; ((with_reducible refine (HP.out _ HG.out).mono ?_); rintro e w3 ⟨rfl, hg3⟩; have HZ3 := Lib.hid hg3; have HG3 := Lib.hid (grown_trans HG.out hg3); obtain ⟨c0, c1, c2, c3, c4⟩ := HB.out _ hg3; clear hg3))
        | (go_at_call 8; ((with_reducible refine (HQ.out _ HG3.out).mono ?_); rintro e w4 ⟨rfl, hg4⟩; have HG4 := Lib.hid (grown_trans HG3.out hg4); clear hg4))
        | (go_at_call 10; ((with_reducible refine (HW.out _ HG4.out).mono ?_); rintro e w5 ⟨rfl, hg5⟩; have HG5 := Lib.hid (grown_trans HG4.out hg5); clear hg5)))
      go_ret
      exact ⟨rfl, HG5.out⟩
    · have hxy := HI.out hm hk
      rw [hm, show putw c = wd c by unfold putw; rw [hm]; rfl] at HP
      rw [hk, show putw d = wd d by unfold putw; rw [hk]; rfl] at HQ
      have he := HC.out
      generalize wd c = x at HP hxy
      generalize wd d = y at HQ hxy
      clear HI hm hk HC
      obtain ⟨op, a, b, c, n⟩ := c
      obtain ⟨op', a', b', c', n'⟩ := d
      unfold ca at *
      cases s
      all_goals
        go_enter Tryd.func7, Tryd.ntmps7
        go_wp2_with (first
          | (go_at_call 8; rw [HW2.out]; ((with_reducible refine (HP.out _ HG.out).mono ?_); rintro e w3 ⟨rfl, hg3⟩; have HZ3 := Lib.hid hg3; have HG3 := Lib.hid (grown_trans HG.out hg3); obtain ⟨c0, c1, c2, c3, c4⟩ := HB.out _ hg3; clear hg3))
          | (go_at_call 8; ((with_reducible refine (HQ.out _ HG3.out).mono ?_); rintro e w4 ⟨rfl, hg4⟩; have HZ4 := Lib.hid (grown_trans HZ3.out hg4); have HG4 := Lib.hid (grown_trans HG3.out hg4); clear hg4))
          | (go_at_call 10; ((with_reducible refine (HW.out _ HG4.out).mono ?_); rintro e w5 ⟨rfl, hg5⟩; have HG5 := Lib.hid (grown_trans HG4.out hg5); have hz := grown_trans HZ4.out hg5; obtain ⟨d0, d1, d2, d3, d4⟩ := HA.out _ hz; obtain ⟨f0, f1, f2, f3, f4⟩ := HB.out _ hz; clear hg5 hz)))
        go_ret
        exact ⟨rfl, HG5.out⟩
theorem takes_law (x : Int) (w : World) (hT : Tab w) (h0 : 0 ≤ x) (h1 : x < 4294967296) : Calls Tryd.prog 5 #[.int .u32 x] w fun e w' => e = .returned (.bool true) ∧ w.grownBy w' none := by
  obtain ⟨n, rfl⟩ : ∃ n : Nat, x = (n : Int) := ⟨x.toNat, by omega⟩
  exact takes_true n w hT (by omega)
theorem back_law (c : Cd) (x : Int) (w : World) (hT : Tab w) (h8 : c.op < 256) (h0 : 0 ≤ x) (h1 : x < 4294967296) : Calls Tryd.prog 6 #[.agg (ca c), .int .u32 x] w fun e w' => e = .returned (.bool true) ∧ w.grownBy w' none := by
  obtain ⟨n, rfl⟩ : ∃ n : Nat, x = (n : Int) := ⟨x.toNat, by omega⟩
  exact back_true c n w hT h8 (by omega)
end Go.Proofs.YtncohgcklmogpaaDoor.cd
