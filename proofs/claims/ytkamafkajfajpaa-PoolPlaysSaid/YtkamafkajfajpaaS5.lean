/-
  What each statement asks first: that what is put is taken: a contract. No condition.
-/
import Derived.Test.YtkamafkajfajpaaS4
namespace Go.Proofs.Ytkamafkajfajpaa.ps
open Go.Proofs.Ytkamafkajfajpaa.pp (Sl Pool Turn Next)
open Go Go.RowKit
set_option linter.unusedVariables false

theorem Pool.new (w : World) (T e : TypeId) (room : Nat) : Pool (w.alloc (.cells #[.slice none 0 0, .int .i64 (room : Int)] T)) T e w.heap.size (.slice none 0 0) room [] :=
  ⟨heap_alloc_new w _, Sl.nil _ _, by simp [Value.ownBlock]⟩

set_option maxHeartbeats 2000000 in
theorem works_any (w : World) : Calls Try.prog 12 #[] w fun e w' => e = .returned (.bool true) ∧ Below w.heap.size w w' := by
  have HN : Hid (Calls Try.prog 23 #[.int .i64 2] w fun e w' => e = .returned (.tuple #[.pointer (some ⟨w.heap.size, 0, none⟩), .int .i64 0]) ∧ w' = w.alloc (.cells #[.slice none 0 0, .int .i64 ((2 : Nat) : Int)] 69)) := Lib.hid (new_ok 2 w (by omega) (by omega))
  go_enter Try.func12, Try.ntmps12
  go_wp2_with (first
    | (go_at_call 23; ((with_reducible refine HN.out.mono ?_); rintro e w1 ⟨rfl, hw1⟩; have HP1 : Hid (IPool w1 w.heap.size (.slice none 0 0) 2 []) := Lib.hid (by rw [hw1]; exact Pool.new w 69 9 2); have HB1 : Hid (Below w.heap.size w w1) := Lib.hid (by rw [hw1]; exact (Below.refl _ _).alloc (Nat.le_refl _) _); clear hw1))
    | (go_at_call 24; ((with_reducible refine (put_ok _ _ 2 [] _ _ HP1.out (by simp) (by omega)).mono ?_); rintro e w2 ⟨rfl, v2, hp2, ht2⟩; have HP2 := Lib.hid hp2; have HT2 := Lib.hid ht2; clear hp2 ht2))
    | (go_at_call 24; ((with_reducible refine (put_ok _ _ 2 _ _ _ HP2.out (by simp) (by omega)).mono ?_); rintro e w3 ⟨rfl, v3, hp3, ht3⟩; have HP3 := Lib.hid hp3; have HT3 := Lib.hid ht3; clear hp3 ht3))
    | (go_at_call 24; ((with_reducible refine (put_full _ _ 2 _ _ _ HP3.out (by simp) (by omega)).mono ?_); rintro e w4 ⟨rfl, n4, hw4⟩; have HW4 := Lib.hid hw4; have HP4 : Hid (IPool w4 w.heap.size v3 2 _) := Lib.hid (by rw [hw4]; exact HP3.out.drewN n4); clear hw4))
    | (go_at_call 28; have h5 : Calls Try.prog 28 #[.pointer (some ⟨w.heap.size, 0, none⟩), .int .i64 0] w4 fun e w' => e = .returned (.tuple #[.string ⟨#[97]⟩, .int .i64 0]) ∧ ∃ v', IPool w' w.heap.size v' 2 [⟨#[98]⟩] ∧ Turn w4 w' w.heap.size v3 v' := take_in _ v3 2 [⟨#[97]⟩, ⟨#[98]⟩] 0 ⟨#[97]⟩ w4 HP4.out rfl (by simp); ((with_reducible refine h5.mono ?_); clear h5; rintro e w5 ⟨rfl, v5, hp5, ht5⟩; have HP5 := Lib.hid hp5; have HT5 := Lib.hid ht5; clear hp5 ht5))
    | (go_at_call 29; have h6 : Calls Try.prog 29 #[.pointer (some ⟨w.heap.size, 0, none⟩), .int .i64 0] w5 fun e w' => e = .returned (.tuple #[.string ⟨#[98]⟩, .int .i64 0]) ∧ w5 = w' := at_in _ v5 2 [⟨#[98]⟩] 0 ⟨#[98]⟩ w5 HP5.out rfl; ((with_reducible refine h6.mono ?_); clear h6; rintro e w' ⟨rfl, rfl⟩))
    | (go_at_call 28; ((with_reducible refine (take_out _ v5 2 _ 1 w5 HP5.out (.inr (by simp))).mono ?_); rintro e w' ⟨rfl, rfl⟩))
    | (go_at_call 30; have h7 : Calls Try.prog 30 #[.pointer (some ⟨w.heap.size, 0, none⟩)] w5 fun e w' => e = .returned (.int .i64 1) ∧ w5 = w' := len_any _ v5 2 [⟨#[98]⟩] w5 HP5.out; ((with_reducible refine h7.mono ?_); clear h7; rintro e w' ⟨rfl, rfl⟩)))
  go_ret
  refine ⟨rfl, ?_⟩
  have hs1 := HB1.out.size
  have t14 : Turn w1 w5 w.heap.size (.slice none 0 0) v5 := (((HT2.out).trans HT3.out).trans (by rw [HW4.out]; exact ⟨rfl, rfl, rfl, Nat.le_refl _, fun _ _ _ _ => rfl, .inl rfl⟩)).trans HT5.out
  exact HB1.out.trans (t14.below hs1 (Nat.le_refl _) (fun k hk => by simp [Value.ownBlock] at hk))
end Go.Proofs.Ytkamafkajfajpaa.ps
