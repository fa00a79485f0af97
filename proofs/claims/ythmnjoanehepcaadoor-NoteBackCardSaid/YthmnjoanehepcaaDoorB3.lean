/-
  What the document's value and the program's number answer: contracts. No condition but the bounds that each theorem names.
-/
import Derived.Test.YthmnjoanehepcaaDoorB2
namespace Go.Proofs.YthmnjoanehepcaaDoor.nn
open Go Go.ChangeShapes Go.WideShapes Go.ChangeAt Go.RowKit
set_option linter.unusedVariables false

/-- The number whose bytes l is. -/
def val : List UInt8 → Nat
  | [] => 0
  | b :: r => b.toNat + 256 * val r
theorem val_lt : ∀ l : List UInt8, val l < 256 ^ l.length
  | [] => by simp [val]
  | b :: r => by
    have h := val_lt r
    have hb : b.toNat < 256 := UInt8.toNat_lt b
    simp only [val, List.length_cons, Nat.pow_succ]
    omega
theorem pow8 {n : Nat} (h : n ≤ 8) : 256 ^ n ≤ 18446744073709551616 := by
  have : 256 ^ n ≤ 256 ^ 8 := Nat.pow_le_pow_right (by omega) h
  omega
theorem val_drop (l : List UInt8) (k : Nat) (b : UInt8) (h : l[k]? = some b) : val (l.drop k) = b.toNat + 256 * val (l.drop (k + 1)) := by
  obtain ⟨hk, hb⟩ := List.getElem?_eq_some_iff.1 h
  rw [List.drop_eq_getElem_cons hk, hb, val]

theorem wu64 (x : Int) (h0 : 0 ≤ x) (h1 : x < 18446744073709551616) : IntKind.u64.wrap x = x := IntWalk.u64_in x ⟨h0, by omega⟩
theorem bget (l : List UInt8) (j : Nat) (b : UInt8) (h : l[j]? = some b) {hj : j < (ByteArray.mk l.toArray).size} : (ByteArray.mk l.toArray)[j] = b := by
  show l.toArray[j] = b
  obtain ⟨_, hb⟩ := List.getElem?_eq_some_iff.1 h
  simpa using hb
set_option maxHeartbeats 1000000 in
theorem value_any (l : List UInt8) (hl : l.length ≤ 8) (w : World) : Calls Tryd.prog 31 #[S l] w fun e w' => e = .returned (.int .u64 (val l : Nat)) ∧ ∃ n, w' = w.drewN n := by
  have hsz : (ByteArray.mk l.toArray).size = l.length := by show l.toArray.size = _; simp
  go_enter Tryd.func31, Tryd.ntmps31
  go_wp2
  go_loopw [3, 4] (fun a b wr => ∃ k : Nat, k ≤ l.length ∧ a = .int .u64 (val (l.drop k) : Nat) ∧ b = .int .i64 ((k : Int) - 1) ∧ wr = w) (fun _ b _ => (intOf b + 1).toNat)
  case atStart => exact ⟨l.length, Nat.le_refl _, by simp [val], by simp, rfl⟩
  case round =>
    obtain ⟨k, hk, rfl, rfl, rfl⟩ := hrel
    by_cases hlt : 1 ≤ k
    · obtain ⟨j, rfl⟩ : ∃ j, k = j + 1 := ⟨k - 1, by omega⟩
      obtain ⟨b, hb⟩ : ∃ b, l[j]? = some b := ⟨_, List.getElem?_eq_getElem (by omega)⟩
      have HV := Lib.hid (val_drop l j b hb)
      have hv : 256 * val (l.drop (j + 1)) + b.toNat < 18446744073709551616 := by
        have h1 := val_lt (l.drop j)
        have h2 := HV.out
        have h3 := pow8 (n := (l.drop j).length) (by rw [List.length_drop]; omega)
        omega
      have hb256 : b.toNat < 256 := UInt8.toNat_lt b
      generalize val (l.drop (j + 1)) = v at *
      have hj : ((j + 1 : Nat) : Int) - 1 = (j : Int) := by omega
      rw [hj]
      go_wp2_with fail
      refine ⟨⟨j, by omega, ?_, rfl, trivial⟩, by simp [intOf]⟩
      rw [bget l j b hb, wu64 (b.toNat : Int) (by omega) (by omega), wu64 _ (by omega) (by omega), HV.out]
      congr 1; omega
    · obtain rfl : k = 0 := by omega
      go_wp2_with fail
      go_ret
      exact ⟨rfl, 0, rfl⟩
end Go.Proofs.YthmnjoanehepcaaDoor.nn
