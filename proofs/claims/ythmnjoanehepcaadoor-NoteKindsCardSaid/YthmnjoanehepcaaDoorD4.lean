/-
  The law NoteKinds returns true: all kinds together. Condition: the table of kinds lies in its variable as the program's text has it.
-/
import Derived.Test.YthmnjoanehepcaaDoorKa
import Derived.Test.YthmnjoanehepcaaDoorKb
import Derived.Test.YthmnjoanehepcaaDoorKc
namespace Go.Proofs.YthmnjoanehepcaaDoor.nn
open Go Go.ChangeShapes Go.WideShapes Go.ChangeAt Go.RowKit
set_option linter.unusedVariables false

theorem kinds_true (k c b st : Int) (w : World) (hT : Tab w) (hk0 : 0 ≤ k) (hk1 : k ≤ 255) : Calls Tryd.prog 8 #[.int .u8 k, .int .i64 c, .int .i64 b, .int .u64 st] w fun e w' => e = .returned (.bool true) ∧ w.grownBy w' none := by
  by_cases h12 : 12 ≤ k
  · exact kinds_k_out k c b st h12 w hT
  · by_cases h0 : k = 0
    · subst h0; exact kinds_0_out c b st w hT
    · have hc : c < 0 ∨ (0 ≤ c ∧ 16 ≤ c) ∨ (0 ≤ c ∧ c < 16 ∧ b < 0) ∨ (0 ≤ c ∧ c < 16 ∧ 0 ≤ b ∧ 256 ≤ b) ∨ (0 ≤ c ∧ c < 16 ∧ 0 ≤ b ∧ b < 256) := by omega
      rcases kinds11 (k := k) (by omega) with rfl | rfl | rfl | rfl | rfl | rfl | rfl | rfl | rfl | rfl | rfl
      · rcases hc with h | ⟨h1, h2⟩ | ⟨h1, h2, h3⟩ | ⟨h1, h2, h3, h4⟩ | ⟨h1, h2, h3, h4⟩
        · exact kinds_1_cl c b st h w hT
        · exact kinds_1_ch c b st h1 h2 w hT
        · exact kinds_1_bl c b st h1 h2 h3 w hT
        · exact kinds_1_bh c b st h1 h2 h3 h4 w hT
        · exact kinds_1_ok c b st h1 h2 h3 h4 w hT
      · rcases hc with h | ⟨h1, h2⟩ | ⟨h1, h2, h3⟩ | ⟨h1, h2, h3, h4⟩ | ⟨h1, h2, h3, h4⟩
        · exact kinds_2_cl c b st h w hT
        · exact kinds_2_ch c b st h1 h2 w hT
        · exact kinds_2_bl c b st h1 h2 h3 w hT
        · exact kinds_2_bh c b st h1 h2 h3 h4 w hT
        · exact kinds_2_ok c b st h1 h2 h3 h4 w hT
      · rcases hc with h | ⟨h1, h2⟩ | ⟨h1, h2, h3⟩ | ⟨h1, h2, h3, h4⟩ | ⟨h1, h2, h3, h4⟩
        · exact kinds_3_cl c b st h w hT
        · exact kinds_3_ch c b st h1 h2 w hT
        · exact kinds_3_bl c b st h1 h2 h3 w hT
        · exact kinds_3_bh c b st h1 h2 h3 h4 w hT
        · exact kinds_3_ok c b st h1 h2 h3 h4 w hT
      · rcases hc with h | ⟨h1, h2⟩ | ⟨h1, h2, h3⟩ | ⟨h1, h2, h3, h4⟩ | ⟨h1, h2, h3, h4⟩
        · exact kinds_4_cl c b st h w hT
        · exact kinds_4_ch c b st h1 h2 w hT
        · exact kinds_4_bl c b st h1 h2 h3 w hT
        · exact kinds_4_bh c b st h1 h2 h3 h4 w hT
        · exact kinds_4_ok c b st h1 h2 h3 h4 w hT
      · rcases hc with h | ⟨h1, h2⟩ | ⟨h1, h2, h3⟩ | ⟨h1, h2, h3, h4⟩ | ⟨h1, h2, h3, h4⟩
        · exact kinds_5_cl c b st h w hT
        · exact kinds_5_ch c b st h1 h2 w hT
        · exact kinds_5_bl c b st h1 h2 h3 w hT
        · exact kinds_5_bh c b st h1 h2 h3 h4 w hT
        · exact kinds_5_ok c b st h1 h2 h3 h4 w hT
      · rcases hc with h | ⟨h1, h2⟩ | ⟨h1, h2, h3⟩ | ⟨h1, h2, h3, h4⟩ | ⟨h1, h2, h3, h4⟩
        · exact kinds_6_cl c b st h w hT
        · exact kinds_6_ch c b st h1 h2 w hT
        · exact kinds_6_bl c b st h1 h2 h3 w hT
        · exact kinds_6_bh c b st h1 h2 h3 h4 w hT
        · exact kinds_6_ok c b st h1 h2 h3 h4 w hT
      · rcases hc with h | ⟨h1, h2⟩ | ⟨h1, h2, h3⟩ | ⟨h1, h2, h3, h4⟩ | ⟨h1, h2, h3, h4⟩
        · exact kinds_7_cl c b st h w hT
        · exact kinds_7_ch c b st h1 h2 w hT
        · exact kinds_7_bl c b st h1 h2 h3 w hT
        · exact kinds_7_bh c b st h1 h2 h3 h4 w hT
        · exact kinds_7_ok c b st h1 h2 h3 h4 w hT
      · rcases hc with h | ⟨h1, h2⟩ | ⟨h1, h2, h3⟩ | ⟨h1, h2, h3, h4⟩ | ⟨h1, h2, h3, h4⟩
        · exact kinds_8_cl c b st h w hT
        · exact kinds_8_ch c b st h1 h2 w hT
        · exact kinds_8_bl c b st h1 h2 h3 w hT
        · exact kinds_8_bh c b st h1 h2 h3 h4 w hT
        · exact kinds_8_ok c b st h1 h2 h3 h4 w hT
      · rcases hc with h | ⟨h1, h2⟩ | ⟨h1, h2, h3⟩ | ⟨h1, h2, h3, h4⟩ | ⟨h1, h2, h3, h4⟩
        · exact kinds_9_cl c b st h w hT
        · exact kinds_9_ch c b st h1 h2 w hT
        · exact kinds_9_bl c b st h1 h2 h3 w hT
        · exact kinds_9_bh c b st h1 h2 h3 h4 w hT
        · exact kinds_9_ok c b st h1 h2 h3 h4 w hT
      · rcases hc with h | ⟨h1, h2⟩ | ⟨h1, h2, h3⟩ | ⟨h1, h2, h3, h4⟩ | ⟨h1, h2, h3, h4⟩
        · exact kinds_10_cl c b st h w hT
        · exact kinds_10_ch c b st h1 h2 w hT
        · exact kinds_10_bl c b st h1 h2 h3 w hT
        · exact kinds_10_bh c b st h1 h2 h3 h4 w hT
        · exact kinds_10_ok c b st h1 h2 h3 h4 w hT
      · rcases hc with h | ⟨h1, h2⟩ | ⟨h1, h2, h3⟩ | ⟨h1, h2, h3, h4⟩ | ⟨h1, h2, h3, h4⟩
        · exact kinds_11_cl c b st h w hT
        · exact kinds_11_ch c b st h1 h2 w hT
        · exact kinds_11_bl c b st h1 h2 h3 w hT
        · exact kinds_11_bh c b st h1 h2 h3 h4 w hT
        · exact kinds_11_ok c b st h1 h2 h3 h4 w hT
end Go.Proofs.YthmnjoanehepcaaDoor.nn
