/-
  What the document's own memory answers to SetBlock, New: contracts. No condition but the bounds that each theorem names.
-/
import Derived.Test.YtfjjmlmkpdpdfaaDoorMeC15
namespace Go.Proofs.YtfjjmlmkpdpdfaaDoor.pp
open Go Go.ChangeShapes Go.WideShapes Go.ChangeAt Go.RowKit
set_option linter.unusedVariables false

theorem rnew_err (n : Int) (w : World) (h : n < 1 ∨ 256 < n) : Calls Tryd.prog 19 #[.int .i64 n] w fun e w' => e = .returned (.tuple #[.pointer none, .int .i64 2]) ∧ w = w' := by
  by_cases h0 : n < 1
  · clear h
    go_enter Tryd.func19, Tryd.ntmps19
    go_wp2
    go_ret2
    exact ⟨rfl, rfl⟩
  · have h1 : decide (n < 1) = false := by simp; omega
    have h3 : decide (256 < n) = true := by simp; omega
    clear h h0
    go_enter Tryd.func19, Tryd.ntmps19
    go_wp2
    go_ret2
    exact ⟨rfl, rfl⟩

theorem info26 : (Tryd.prog.info? 34).map (fun i => (i.zero, i.size, i.bytes)) = some (some (.int .u32 0), 1, 4) := by kernel_rfl
theorem flat_zero : ∀ n, (List.replicate n zero).flatten.map U = List.replicate (16 * n) (.int .u32 0)
  | 0 => rfl
  | n + 1 => by
    rw [List.replicate_succ, List.flatten_cons, List.map_append, flat_zero n, show 16 * (n + 1) = 16 + 16 * n by omega, ← List.replicate_append_replicate]
    rfl

theorem rnew_ok (n : Nat) (w : World) (h1 : 1 ≤ n) (h2 : n ≤ 256) : Calls Tryd.prog 19 #[.int .i64 (n : Int)] w fun e w' => ∃ b v, e = .returned (.tuple #[.pointer (some ⟨b, 0, none⟩), .int .i64 0]) ∧ RMem w' b v (List.replicate n zero) ∧ w.grownBy w' none ∧ w.heap.size ≤ b ∧ ∀ k, v.ownBlock = some k → w.heap.size ≤ k := by
  obtain ⟨i0, hi, hz0, hz1, hz2⟩ := info_parts info26
  have hd1 : decide ((n : Int) < 1) = false := by simp; omega
  have hd2 : decide (256 < (n : Int)) = false := by simp; omega
  obtain ⟨m, hm⟩ : ∃ m, m = 16 * n := ⟨_, rfl⟩
  have hw : IntKind.i64.wrap (16 * (n : Int)) = (m : Int) := by simp [IntKind.wrap, IntKind.bits, IntKind.signed]; omega
  have HMM := Lib.hid hm
  have hm2 : m ≤ 4096 := by omega
  obtain ⟨cs, hcs⟩ : ∃ cs : List Value, cs = List.replicate m (.int .u32 0) := ⟨_, rfl⟩
  have HCS := Lib.hid hcs
  have H2 := Lib.hid h2
  clear hm h1 h2 hcs
  go_enter Tryd.func19, Tryd.ntmps19
  go_wp2_with (((with_reducible refine make_at 84 34 i0 (.int .u32 0) 11 11 m Tryd.underlying84 hi hz0 hz1 ?_ ?_ ?_ ?_ ?_ cs ?_ ?_); (rfl); (rfl); (rfl); (rw [hz2]; omega); (omega); (exact HCS.out)))
  go_ret2
  have hfl : (List.replicate n zero).flatten.map U = cs := by rw [flat_zero, ← HMM.out, HCS.out]
  have hcl : cs.length = m := by rw [HCS.out, List.length_replicate]
  refine ⟨_, _, rfl, ⟨heap_alloc2_new w _ _, .inr ⟨w.heap.size, 0, m, cs.toArray, by rw [hfl, hcl], heap_alloc2_old w _ _, by rw [hfl, hcl]; exact Nat.le_refl _, by unfold maxLen; omega, by simp [hcl], fun k x hk => by rw [hfl] at hk; simpa using hk⟩, fun x hx => by rw [List.eq_of_mem_replicate hx]; rfl, by simpa using H2.out⟩, grown_alloc (grown_alloc (grown_refl _ _) _) _, by omega, fun k hk => by simp [Value.ownBlock] at hk; omega⟩
end Go.Proofs.YtfjjmlmkpdpdfaaDoor.pp
