/-
  What the numbers' bytes are: the document's number and value, the program's putNumber and number: contracts. No condition but the bounds that each theorem names.
-/
import Derived.Test.YthmnjoanehepcaaDoorB1
import Derived.Laws.IdiomStrings
import Derived.Laws.Concat
namespace Go.Proofs.YthmnjoanehepcaaDoor.nn
open Go Go.ChangeShapes Go.WideShapes Go.ChangeAt Go.RowKit
set_option linter.unusedVariables false

abbrev S (l : List UInt8) : Value := .string ⟨l.toArray⟩
/-- The i-th byte of a number. -/
def byt (x i : Nat) : UInt8 := UInt8.ofNat (x / 256 ^ i % 256)
/-- The m lowest bytes. -/
def lowb (x m : Nat) : List UInt8 := (List.range m).map (byt x)
theorem lowb_succ (x m : Nat) : lowb x (m + 1) = lowb x m ++ [byt x m] := by simp [lowb, List.range_succ]
theorem lowb_len (x m : Nat) : (lowb x m).length = m := by simp [lowb]
theorem byt_nat (x i : Nat) : (byt x i).toNat = x / 256 ^ i % 256 := by
  simp [byt, UInt8.toNat_ofNat']
def bcell (b : UInt8) : Value := .int .u8 (b.toNat : Int)

theorem conv1 (W : World) (b : UInt8) : (convert 42 9 (.slice (some ⟨W.heap.size, 0, none⟩) 1 1)).run Tryd.prog (W.alloc (.cells #[bcell b] 5)) = .ok (S [b]) (W.alloc (.cells #[bcell b] 5)) :=
  run_convert_bytes_back (W.alloc (.cells #[bcell b] 5)) 42 9 5 ⟨W.heap.size, 0, none⟩ 1 [b] Tryd.underlying42 Tryd.underlying5 Tryd.underlying9 (fun j hj => by
    have : j = 0 := by simp at hj; omega
    subst this
    simp [bcell, add_lit])
theorem add_s (x y : List UInt8) (h : x.length + y.length ≤ 1000000) (w : World) : (Op.stringOp .add ⟨x.toArray⟩ ⟨y.toArray⟩).run Tryd.prog w = .ok (S (x ++ y)) w := by
  rw [run_string_add_lists w x y (by omega) (by omega)]

set_option maxHeartbeats 1000000 in
theorem rnumber_any (x m : Nat) (hm : m ≤ 8) (hx : x < 18446744073709551616) (w : World) : Calls Tryd.prog 22 #[.int .u64 (x : Int), .int .i64 (m : Int)] w fun e w' => e = .returned (S (lowb x m)) ∧ w.grownBy w' none := by
  have HX := Lib.hid hx
  go_enter Tryd.func22, Tryd.ntmps22
  go_wp2
  go_loopw [0, 5, 6] (fun a b c wr => ∃ k : Nat, k ≤ m ∧ a = .int .u64 ((x / 256 ^ k : Nat) : Int) ∧ b = S (lowb x k) ∧ c = .int .i64 (k : Int) ∧ w.grownBy wr none) (fun _ _ c _ => m - (intOf c).toNat)
  case atStart => exact ⟨0, Nat.zero_le _, by simp, rfl, rfl, grown_refl _ _⟩
  case round =>
    obtain ⟨k, hk, rfl, rfl, rfl, hg⟩ := hrel
    have HG := Lib.hid hg
    clear hg
    by_cases hlt : k < m
    · have HADD := Lib.hid (add_s (lowb x k) [byt x k] (by rw [lowb_len]; simp; omega))
      have hq : x / 256 ^ k < 18446744073709551616 := Nat.lt_of_le_of_lt (Nat.div_le_self _ _) HX.out
      have hb := byt_nat x k
      have HE : Hid (x / 256 ^ k / 256 = x / 256 ^ (k + 1)) := Lib.hid (by rw [Nat.div_div_eq_div_mul, Nat.pow_succ])
      have HL := Lib.hid (lowb_succ x k)
      generalize x / 256 ^ k = q at *
      generalize lowb x k = l at *
      have hcv : (convert 42 9 (.slice (some ⟨wr.heap.size, 0, none⟩) 1 1)).run Tryd.prog (wr.alloc (.cells #[.int .u8 ((q : Int) % 256)] 5)) = .ok (.string ⟨#[byt x k]⟩) (wr.alloc (.cells #[.int .u8 ((q : Int) % 256)] 5)) := by
        have h := conv1 wr (byt x k)
        rw [bcell, hb, Int.natCast_emod] at h
        exact h
      have hadd := fun w => HADD.out w
      go_wp2_with fail
      go_roundw
      case rel => exact ⟨k + 1, by omega, by rw [← HE.out]; simp, by rw [HL.out], by go_num, grown_alloc HG.out _⟩
      case measure => simp [intOf]; omega
    · obtain rfl : k = m := by omega
      go_wp2_with fail
      go_ret
      exact ⟨rfl, HG.out⟩
end Go.Proofs.YthmnjoanehepcaaDoor.nn
