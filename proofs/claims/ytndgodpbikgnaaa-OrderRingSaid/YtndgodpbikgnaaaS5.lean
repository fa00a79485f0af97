/-
  math/bits.Len (the shelf's contract, at this program's numbers), slices.nextPowerOfTwo, the generator's next number: contracts. No condition but the bounds that each theorem names.
-/
import Derived.Test.YtndgodpbikgnaaaS4
import Derived.Shelf.Small.Bits
import Derived.Laws.Bits64
import Derived.Laws.Bits64b
namespace Go.Proofs.Ytndgodpbikgnaaa.srt
open Go Go.Shelf Go.RowKit Go.Sort
set_option linter.unusedVariables false

def lenA_ren : Go.Shelf.Ren := ⟨fun | 125 => 19 | 128 => 29 | 129 => 30 | n => n, fun | 46 => 37 | 3 => 3 | 51 => 47 | 53 => 24 | 4 => 4 | 5 => 5 | 9 => 9 | n => n, fun | n => n⟩
theorem lenA : Go.Proofs.Lays.n125 Try.prog lenA_ren := {
  mixed := by kernel_rfl
  f125 := Try.func19.trans (congrArg some (by kernel_rfl))
  f128 := Try.func29.trans (congrArg some (by kernel_rfl))
  f129 := Try.func30.trans (congrArg some (by kernel_rfl))
  t3 := Try.underlying3
  a3 := Try.isAgg3
  z3 := Try.sizeOf3
  v3 := Try.zeroValue3
  t4 := Try.underlying4
  a4 := Try.isAgg4
  z4 := Try.sizeOf4
  v4 := Try.zeroValue4
  t5 := Try.underlying5
  a5 := Try.isAgg5
  z5 := Try.sizeOf5
  v5 := Try.zeroValue5
  t9 := Try.underlying9
  a9 := Try.isAgg9
  z9 := Try.sizeOf9
  v9 := Try.zeroValue9
  t46 := Try.underlying37
  a46 := Try.isAgg37
  z46 := Try.sizeOf37
  v46 := Try.zeroValue37
  t51 := Try.underlying47
  a51 := Try.isAgg47
  z51 := Try.sizeOf47
  v51 := Try.zeroValue47
  t53 := Try.underlying24
  a53 := Try.isAgg24
  z53 := Try.sizeOf24
  v53 := Try.zeroValue24 }

theorem bit_facts : ∀ x : Fin 1001, (0 < x.val → 2 ^ Lib.bitLen x.val ≤ 2 * x.val) ∧ Lib.bitLen x.val ≤ 10 := by decide +kernel
theorem len (x : Nat) (hx : x ≤ 1000) (w : World) : Calls Try.prog 19 #[.int .u64 x] w fun e w' => e = .returned (.int .i64 (Lib.bitLen x : Nat)) ∧ w' = w := by
  have h := Any.bits_Len lenA (x : Int) w (by omega) (by omega)
  rwa [Int.toNat_natCast] at h

theorem npt (L : Nat) (h0 : 0 < L) (hx : L ≤ 1000) (w : World) : Calls Try.prog 32 #[.int .i64 L] w fun e w' => ∃ M : Nat, e = .returned (.int .u64 M) ∧ 1 ≤ M ∧ M ≤ 2 * L ∧ w' = w := by
  have hLen := fun w => len L hx w
  obtain ⟨hb1, hb2⟩ := bit_facts ⟨L, by omega⟩
  simp only [] at hb1 hb2
  have hb1 := hb1 h0
  generalize Lib.bitLen L = k at hLen hb1 hb2
  obtain ⟨M, hM⟩ : ∃ M : Nat, M = 2 ^ k := ⟨_, rfl⟩
  have h1 : 1 ≤ M := by rw [hM]; exact Nat.two_pow_pos _
  rw [← hM] at hb1
  have hp : IntKind.u64.wrap ((2 : Int) ^ k) = (M : Int) := by
    rw [show ((2 : Int) ^ k) = ((2 ^ k : Nat) : Int) by push_cast; rfl, ← hM, IntKind.wrap_u64]; omega
  clear hM
  go_enter Try.func32, Try.ntmps32
  go_wp2_with (first | (go_at_call 19; refine (hLen _).mono ?_; rintro e w' ⟨rfl, rfl⟩))
  go_ret
  exact ⟨M, rfl, h1, hb1, rfl⟩

/-- One of the generator's three steps keeps 64 bits. -/
theorem xor_bits (X Y : Nat) (hX : X < 18446744073709551616) (hY : Y < 18446744073709551616) : ∃ A : Nat, bits .xor .u64 (X : Int) (Y : Int) = (A : Int) ∧ A < 18446744073709551616 :=
  ⟨X ^^^ Y, bits_xor_u64_nat _ _ hX hY, Nat.xor_lt_two_pow (n := 64) (by omega) (by omega)⟩
theorem setCell_setCell (w : World) (blk off : Nat) (v v' : Value) : (w.setCell ⟨blk, off, none⟩ v).setCell ⟨blk, off, none⟩ v' = w.setCell ⟨blk, off, none⟩ v' := by
  rw [setCell_eq, setCell_eq, mapBlock_mapBlock, setCell_eq]
  congr 1
  funext c
  simp

set_option maxRecDepth 100000 in
theorem next (rb X : Nat) (hX : X < 18446744073709551616) (w : World) (hc : w.cell? ⟨rb, 0, none⟩ = some (.int .u64 X)) (hf : w.frozen? ⟨rb, 0, none⟩ = false) :
    Calls Try.prog 33 #[.pointer (some ⟨rb, 0, none⟩)] w fun e w' => ∃ R : Nat, R < 18446744073709551616 ∧ e = .returned (.int .u64 R) ∧ w' = (w.setCell ⟨rb, 0, none⟩ (.int .u64 R)).drewN 3 := by
  obtain ⟨A, e1, lA⟩ := xor_bits X (X * 8192 % 18446744073709551616) hX (by omega)
  obtain ⟨B, e2, lB⟩ := xor_bits A (A / 128) lA (by omega)
  obtain ⟨C, e3, lC⟩ := xor_bits B (B * 131072 % 18446744073709551616) lB (by omega)
  have e1 : bits .xor .u64 (X : Int) (IntKind.u64.wrap ((X : Int) * 8192)) = (A : Int) := by
    rw [IntKind.wrap_u64, show ((X : Int) * 8192 % 18446744073709551616) = ((X * 8192 % 18446744073709551616 : Nat) : Int) by omega, e1]
  have e2 : bits .xor .u64 (A : Int) ((A : Int) / 128) = (B : Int) := by
    rw [show ((A : Int) / 128) = ((A / 128 : Nat) : Int) by omega, e2]
  have e3 : bits .xor .u64 (B : Int) (IntKind.u64.wrap ((B : Int) * 131072)) = (C : Int) := by
    rw [IntKind.wrap_u64, show ((B : Int) * 131072 % 18446744073709551616) = ((B * 131072 % 18446744073709551616 : Nat) : Int) by omega, e3]
  have hss : ∀ v v', (w.setCell ⟨rb, 0, none⟩ v).setCell ⟨rb, 0, none⟩ v' = w.setCell ⟨rb, 0, none⟩ v' := setCell_setCell w rb 0
  go_enter Try.func33, Try.ntmps33
  go_wp2
  go_region
  all_goals go_wp2
  all_goals go_region
  all_goals go_wp2
  all_goals go_region
  all_goals go_wp2
  go_ret
  exact ⟨C, lC, rfl, rfl⟩
end Go.Proofs.Ytndgodpbikgnaaa.srt
