/-
  The laws NoteKnown and NoteOnce return true: the walks. Condition: the table of kinds lies in its variable as the program's text has it.
-/
import Derived.Test.YthmnjoanehepcaaDoorC1
namespace Go.Proofs.YthmnjoanehepcaaDoor.nn
open Go Go.ChangeShapes Go.WideShapes Go.ChangeAt Go.RowKit
set_option linter.unusedVariables false

set_option maxRecDepth 100000 in
set_option maxHeartbeats 1000000 in
theorem known_true (w : World) (hT : Tab w) : Calls Tryd.prog 3 #[] w fun e w' => e = .returned (.bool true) ∧ w.grownBy w' none := by
  have HT := Lib.hid (fun w' (h : w.grownBy w' none) => hT.grown h)
  have HA := Lib.hid asks_any
  have HP : Hid (∀ w', Tab w' → _) := Lib.hid fun w' h => put_yes ask w' h ask_ok ask_fit
  have HWK : Hid (∀ w', Tab w' → _) := Lib.hid fun w' h => works_any w' h
  have n3 := Lib.hid (net_any 3)
  have n4 := Lib.hid (net_any 4)
  have n11 := Lib.hid (net_any 11)
  have n12 := Lib.hid (net_any 12)
  rw [show net 3 = 0 from rfl] at n3
  rw [show net 4 = 1 from rfl] at n4
  rw [show net 11 = 2 from rfl] at n11
  rw [show net 12 = -1 from rfl] at n12
  have hsz : (ByteArray.mk (putb ask).toArray).size = 78 := by show (putb ask).toArray.size = _; simp [putb_len]
  have h6 : (ByteArray.mk (putb ask).toArray).extract 0 6 = ⟨#[1, 3, 0, 5, 0, 3]⟩ := by decide +kernel
  clear hT
  generalize putb ask = l at *
  go_enter Tryd.func3, Tryd.ntmps3
  go_wp2_with (first
    | (go_at_call 10; ((with_reducible refine (HA.out _).mono ?_); rintro e w1 ⟨rfl, hg1⟩; have H1 := Lib.hid hg1; clear hg1))
    | (go_at_call 9; ((with_reducible refine (HP.out _ (HT.out _ H1.out)).mono ?_); rintro e w2 ⟨rfl, hg2⟩; have H2 := Lib.hid (grown_trans H1.out hg2); clear hg2 H1))
    | (go_at_call 11; ((with_reducible refine (HWK.out _ (HT.out _ H2.out)).mono ?_); rintro e w3 ⟨rfl, hg3⟩; have H3 := Lib.hid (grown_trans H2.out hg3); clear hg3 H2))
    | (go_at_call 12; ((with_reducible refine (n3.out _).mono ?_); rintro e w4 ⟨rfl, rfl⟩))
    | (go_at_call 12; ((with_reducible refine (n4.out _).mono ?_); rintro e w4 ⟨rfl, rfl⟩))
    | (go_at_call 12; ((with_reducible refine (n11.out _).mono ?_); rintro e w4 ⟨rfl, rfl⟩))
    | (go_at_call 12; ((with_reducible refine (n12.out _).mono ?_); rintro e w4 ⟨rfl, rfl⟩)))
  go_ret
  exact ⟨rfl, H3.out⟩
end Go.Proofs.YthmnjoanehepcaaDoor.nn
