/-
  What the program's number, flags and putNumber answer: contracts. No condition but the bounds that each theorem names.
-/
import Derived.Test.YthmnjoanehepcaaDoorB3
import Derived.Test.YthmnjoanehepcaaDoorA3
namespace Go.Proofs.YthmnjoanehepcaaDoor.nn
open Go Go.ChangeShapes Go.WideShapes Go.ChangeAt Go.RowKit
set_option linter.unusedVariables false

theorem val_take (l : List UInt8) (k : Nat) (b : UInt8) (h : l[k]? = some b) : val (l.take (k + 1)) = val (l.take k) + b.toNat * 256 ^ k := by
  induction l generalizing k with
  | nil => simp at h
  | cons c r ih =>
    cases k with
    | zero => simp at h; subst h; simp [val]
    | succ k =>
      have h' : r[k]? = some b := by simpa using h
      have := ih k h'
      simp only [List.take_succ_cons, val, this, Nat.pow_succ]
      rw [Nat.mul_add, ← Nat.add_assoc, ← Nat.mul_assoc, ← Nat.mul_assoc, Nat.mul_comm 256 b.toNat, Nat.mul_assoc, Nat.mul_assoc, Nat.mul_comm 256 (256 ^ k)]

theorem pow256 (k : Nat) : 256 ^ k = 2 ^ (8 * k) := by rw [Nat.pow_mul]
theorem orsum (v b k : Nat) (hv : v < 256 ^ k) : v ||| b * 256 ^ k = v + b * 256 ^ k := by
  rw [pow256] at hv ⊢
  rw [Nat.or_comm, Nat.mul_comm, ← Nat.two_pow_add_eq_or_of_lt hv, Nat.add_comm]
theorem or_step (v : Nat) (b : UInt8) (k : Nat) (hk : k < 8) (hv : v < 256 ^ k) : bits .or .u64 (v : Int) (IntKind.u64.wrap (IntKind.u64.wrap (b.toNat : Int) * 2 ^ (8 * k))) = ((v + b.toNat * 256 ^ k : Nat) : Int) := by
  have hb : b.toNat < 256 := UInt8.toNat_lt b
  have h8 : 256 ^ (k + 1) ≤ 18446744073709551616 := pow8 (by omega)
  have hm : b.toNat * 256 ^ k + 256 ^ k ≤ 256 ^ (k + 1) := by
    rw [Nat.pow_succ, Nat.mul_comm (256 ^ k), ← Nat.succ_mul]; exact Nat.mul_le_mul_right _ hb
  have he : (b.toNat : Int) * 2 ^ (8 * k) = ((b.toNat * 256 ^ k : Nat) : Int) := by rw [pow256]; simp
  rw [wu64 (b.toNat : Int) (by omega) (by omega), he, wu64 _ (by omega) (by omega), u64_or_nat _ _ (by omega) (by omega), orsum v b.toNat k hv]
set_option maxHeartbeats 1000000 in
theorem number_any (l : List UInt8) (hl : l.length ≤ 8) (w : World) : Calls Tryd.prog 30 #[S l] w fun e w' => e = .returned (.int .u64 (val l : Nat)) ∧ ∃ n, w' = w.drewN n := by
  have hsz : (ByteArray.mk l.toArray).size = l.length := by show l.toArray.size = _; simp
  go_enter Tryd.func30, Tryd.ntmps30
  go_wp2
  go_loopw [3, 7] (fun a b wr => ∃ k : Nat, k ≤ l.length ∧ a = .int .u64 (val (l.take k) : Nat) ∧ b = .int .i64 (k : Int) ∧ wr = w) (fun _ b _ => l.length - (intOf b).toNat)
  case atStart => exact ⟨0, Nat.zero_le _, by simp [val], rfl, rfl⟩
  case round =>
    obtain ⟨k, hk, rfl, rfl, rfl⟩ := hrel
    by_cases hlt : k < l.length
    · obtain ⟨b, hb⟩ : ∃ b, l[k]? = some b := ⟨_, List.getElem?_eq_getElem (by omega)⟩
      have HV := Lib.hid (val_take l k b hb)
      have hb256 : b.toNat < 256 := UInt8.toNat_lt b
      have hk8 : k < 8 := by omega
      obtain ⟨v, hv⟩ : ∃ v, val (l.take k) = v := ⟨_, rfl⟩
      rw [hv] at HV ⊢
      have HVK := Lib.hid hv
      clear hv
      have hv : v < 256 ^ k := by rw [← HVK.out]; exact Nat.lt_of_lt_of_le (val_lt _) (Nat.pow_le_pow_right (by omega) (by simp; omega))
      have HS := Lib.hid (or_step v b k hk8 hv)
      clear hv
      go_wp2_with fail
      refine ⟨⟨k + 1, by omega, ?_, by go_num, trivial⟩, by simp [intOf]; omega⟩
      rw [bget l k b hb, HS.out, HV.out]
    · obtain rfl : k = l.length := by omega
      go_wp2_with fail
      go_ret
      exact ⟨by rw [List.take_length]; rfl, 0, rfl⟩
theorem flags_any (n : Nt) (hs : 0 ≤ n.s ∧ n.s ≤ 3) (w : World) : Calls Tryd.prog 20 #[.agg (na n)] w fun e w' => e = .returned (.int .u8 (4 * n.s + (if n.h then 2 else 0) + (if n.q then 1 else 0))) ∧ w.grownBy w' none := by
  have hg := Lib.hid (grown_alloc (grown_refl w none) (.cells (na n) 31))
  have c5 := box w n 5 _ rfl
  have c6 := box w n 6 _ rfl
  have c7 := box w n 7 _ rfl
  cases hh : n.h <;> cases hq : n.q
  all_goals
    rw [hh] at c6
    rw [hq] at c7
    go_enter Tryd.func20, Tryd.ntmps20
    go_wp2_with fail
    go_ret
    refine ⟨?_, hg.out⟩
    congr 2
    simp
    try omega
end Go.Proofs.YthmnjoanehepcaaDoor.nn
