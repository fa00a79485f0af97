/-
  What a pool of strings answers to New, Len, Room, At: contracts. No condition but the bounds that each theorem names.
-/
import Derived.Test.YtkamafkajfajpaaRows
import Derived.Test.YtkamafkajfajpaaM
import Derived.WalkKit
import Derived.ProofKit
import Derived.OpenShut
import Derived.WalkLawsBesides
import Derived.Handy
import Derived.Lib.Hide
import Derived.LoopTactic
import Derived.Outline
import Derived.Deep.QuietTactic
import Derived.BigQuiet
import Derived.Deep.RegionLaw
namespace Go.Proofs.Ytkamafkajfajpaa.ps
open Go.Proofs.Ytkamafkajfajpaa.pp
open Go Go.ChangeShapes Go.WideShapes Go.ChangeAt Go.RowKit
set_option linter.unusedVariables false

def I (n : ByteArray) : Value := .string n
abbrev IPool (w : World) (b : Nat) (v : Value) (room : Nat) (xs : List ByteArray) : Prop := Pool w 69 9 b v room (xs.map I)

theorem new_ok (room : Nat) (w : World) (h1 : 1 ≤ room) (h2 : room ≤ 65536) : Calls Try.prog 23 #[.int .i64 (room : Int)] w fun e w' => e = .returned (.tuple #[.pointer (some ⟨w.heap.size, 0, none⟩), .int .i64 0]) ∧ w' = w.alloc (.cells #[.slice none 0 0, .int .i64 (room : Int)] 69) := by
  go_enter Try.func23, Try.ntmps23
  go_wp2
  go_ret2
  exact ⟨rfl, rfl⟩
theorem new_err (room : Int) (w : World) (h : room < 1 ∨ 65536 < room) : Calls Try.prog 23 #[.int .i64 room] w fun e w' => e = .returned (.tuple #[.pointer none, .int .i64 2]) ∧ w = w' := by
  by_cases h0 : room < 1
  · clear h
    go_enter Try.func23, Try.ntmps23
    go_wp2
    go_ret2
    exact ⟨rfl, rfl⟩
  · have h1 : decide (room < 1) = false := by simp; omega
    have h3 : decide (65536 < room) = true := by simp; omega
    clear h h0
    go_enter Try.func23, Try.ntmps23
    go_wp2
    go_ret2
    exact ⟨rfl, rfl⟩

theorem len_nil (w : World) : Calls Try.prog 30 #[.pointer none] w fun e w' => e = .returned (.int .i64 0) ∧ w = w' := by
  go_enter Try.func30, Try.ntmps30
  go_wp2
  go_ret
  exact ⟨rfl, rfl⟩
theorem len_any (b : Nat) (v : Value) (room : Nat) (xs : List ByteArray) (w : World) (hP : IPool w b v room xs) : Calls Try.prog 30 #[.pointer (some ⟨b, 0, none⟩)] w fun e w' => e = .returned (.int .i64 (xs.length : Int)) ∧ w = w' := by
  obtain ⟨ad, cap, rfl⟩ := hP.sl.form
  have hc := hP.cell0
  rw [List.length_map] at hc
  clear hP
  go_enter Try.func30, Try.ntmps30
  go_wp2
  go_ret
  exact ⟨rfl, rfl⟩
theorem room_nil (w : World) : Calls Try.prog 33 #[.pointer none] w fun e w' => e = .returned (.int .i64 0) ∧ w = w' := by
  go_enter Try.func33, Try.ntmps33
  go_wp2
  go_ret
  exact ⟨rfl, rfl⟩
theorem room_any (b : Nat) (v : Value) (room : Nat) (xs : List ByteArray) (w : World) (hP : IPool w b v room xs) (hl : xs.length ≤ room) (hr : room ≤ 65536) : Calls Try.prog 33 #[.pointer (some ⟨b, 0, none⟩)] w fun e w' => e = .returned (.int .i64 ((room : Int) - (xs.length : Int))) ∧ ∃ n, w' = w.drewN n := by
  obtain ⟨ad, cap, rfl⟩ := hP.sl.form
  have hc := hP.cell0
  have hc1 := hP.cell1
  rw [List.length_map] at hc
  clear hP
  obtain ⟨q, hq⟩ : ∃ q, q = xs.length := ⟨_, rfl⟩
  rw [← hq] at hc hl ⊢
  clear hq
  go_enter Try.func33, Try.ntmps33
  go_wp2_with fail
  go_quiet (fail)
  go_wp2_with fail
  go_ret
  exact ⟨rfl, _, rfl⟩

theorem at_nil (i : Int) (w : World) : Calls Try.prog 29 #[.pointer none, .int .i64 i] w fun e w' => e = .returned (.tuple #[.string ⟨#[]⟩, .int .i64 1]) ∧ w = w' := by
  go_enter Try.func29, Try.ntmps29
  go_wp2
  go_ret2
  exact ⟨rfl, rfl⟩
theorem at_out (b : Nat) (v : Value) (room : Nat) (xs : List ByteArray) (i : Int) (w : World) (hP : IPool w b v room xs) (h : i < 0 ∨ (xs.length : Int) ≤ i) : Calls Try.prog 29 #[.pointer (some ⟨b, 0, none⟩), .int .i64 i] w fun e w' => e = .returned (.tuple #[.string ⟨#[]⟩, .int .i64 5]) ∧ w = w' := by
  obtain ⟨ad, cap, rfl⟩ := hP.sl.form
  have hc := hP.cell0
  rw [List.length_map] at hc
  clear hP
  obtain ⟨q, hq⟩ : ∃ q, q = xs.length := ⟨_, rfl⟩
  rw [← hq] at hc h
  clear hq
  by_cases h0 : i < 0
  · clear h
    go_enter Try.func29, Try.ntmps29
    go_wp2
    go_ret2
    exact ⟨rfl, rfl⟩
  · have h1 : decide (i < 0) = false := by simp; omega
    have h2 : decide ((q : Int) ≤ i) = true := by simp; omega
    clear h h0
    go_enter Try.func29, Try.ntmps29
    go_wp2
    go_ret2
    exact ⟨rfl, rfl⟩
theorem at_in (b : Nat) (v : Value) (room : Nat) (xs : List ByteArray) (k : Nat) (x : ByteArray) (w : World) (hP : IPool w b v room xs) (hx : xs[k]? = some x) : Calls Try.prog 29 #[.pointer (some ⟨b, 0, none⟩), .int .i64 (k : Int)] w fun e w' => e = .returned (.tuple #[.string x, .int .i64 0]) ∧ w = w' := by
  obtain ⟨g, off, cap, rfl, hcell⟩ := hP.sl.cell k (I x) (by simp [hx])
  have hc := hP.cell0
  have hk : k < xs.length := (List.getElem?_eq_some_iff.1 hx).1
  rw [List.length_map] at hc
  unfold I at hcell
  clear hP hx
  obtain ⟨q, hq⟩ : ∃ q, q = xs.length := ⟨_, rfl⟩
  rw [← hq] at hc hk
  clear hq
  go_enter Try.func29, Try.ntmps29
  go_wp2
  go_ret2
  exact ⟨rfl, rfl⟩
end Go.Proofs.Ytkamafkajfajpaa.ps
