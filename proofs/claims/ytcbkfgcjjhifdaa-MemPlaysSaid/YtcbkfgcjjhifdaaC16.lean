/-
  What the document's own memory answers to SetBlock, New: contracts. No condition but the bounds that each theorem names.
-/
import Derived.Test.YtcbkfgcjjhifdaaC15
namespace Go.Proofs.Ytcbkfgcjjhifdaa.pp
open Go Go.ChangeShapes Go.WideShapes Go.ChangeAt Go.RowKit
set_option linter.unusedVariables false

set_option maxHeartbeats 1000000 in
theorem rset_block_any (b : Nat) (v : Value) (bs : List (List Int)) (i : Int) (x : List Int) (hx16 : x.length = 16) (w : World) (hR : RMem w b v bs) : Calls Try.prog 23 #[.pointer (some ⟨b, 0, none⟩), .int .i64 i, .agg (row x)] w fun e w' => e = .returned (.int .i64 (err (inb bs.length i))) ∧ RMem w' b v (setB bs i x) ∧ w.grownBy w' v.ownBlock := by
  have hg0 : w.grownBy (w.alloc (.cells (row x) 30)) none := grown_alloc (grown_refl _ _) _
  have hp := place_any b v bs i 0 _ (hR.kept hg0)
  have hii : inn bs.length i 0 = inb bs.length i := by simp [inn, inb]
  rw [hii] at hp
  by_cases hin : inb bs.length i = true
  · have h0 := hin
    simp [inb] at h0
    obtain ⟨n, rfl⟩ : ∃ n : Nat, i = (n : Int) := ⟨i.toNat, by omega⟩
    have hn : n < bs.length := by omega
    obtain ⟨old, hold⟩ : ∃ old, bs[n]? = some old := ⟨_, List.getElem?_eq_getElem hn⟩
    have ho16 := hR.len old (List.mem_of_getElem? hold)
    have hset : setB bs n x = bs.set n x := by rw [setB, hin, if_pos rfl, Int.toNat_natCast]
    obtain ⟨y0, hy0⟩ : ∃ y, old[0]? = some y := ⟨old[0]'(by omega), List.getElem?_eq_getElem (by omega)⟩
    obtain ⟨g, off, cap, rfl, _, _⟩ := hR.at (k := 0) hold hy0
    have hf := hR.few
    rw [hin, if_pos rfl, show (16 * (n : Int) + 0) = ((16 * n : Nat) : Int) by omega] at hp
    rw [hset, hin, show err true = 0 from rfl]
    obtain ⟨L, hL⟩ : ∃ L, L = 16 * bs.length := ⟨_, rfl⟩
    obtain ⟨P, hP⟩ : ∃ P, P = 16 * n := ⟨_, rfl⟩
    rw [← hP] at hp
    rw [← hL] at hR ⊢
    have hPL : P + 16 ≤ L := by omega
    have hL2 : L ≤ 4096 := by omega
    have HP := Lib.hid hp
    have HX := Lib.hid hx16
    have HO := Lib.hid ho16
    have HR := Lib.hid hR
    have HQ := Lib.hid hP
    have HLL := Lib.hid hL
    have HN := Lib.hid hold
    have HNN := Lib.hid hn
    clear hR hp hx16 hy0 ho16 hold hin hn hset h0 hL hP hf hii hg0
    go_enter Try.func23, Try.ntmps23
    go_wp2_with (go_at_call 30; ((with_reducible refine HP.out.mono ?_); rintro e w' ⟨rfl, rfl⟩))
    go_loopw [8] (fun i wr => ∃ k : Nat, k ≤ 16 ∧ i = .int .i64 (k : Int) ∧ RMem wr b (.slice (some ⟨g, off, none⟩) L cap) (bs.set n (cp x old k)) ∧ wr.heap[w.heap.size]? = some (.cells (row x) 30 (0, 0)) ∧ w.grownBy wr (some g)) (fun i _ => 16 - (intOf i).toNat)
    case atStart =>
      refine ⟨0, by omega, rfl, ?_, heap_alloc_new _ _, grown_alloc (grown_refl _ _) _⟩
      have : bs.set n (cp x old 0) = bs := by
        obtain ⟨h1, h2⟩ := List.getElem?_eq_some_iff.1 HN.out
        rw [cp_zero, ← h2]; exact List.set_getElem_self h1
      rw [this]; exact HR.out.kept (grown_alloc (grown_refl _ _) _)
    case round =>
      obtain ⟨k, hk, rfl, hr, hb, hg⟩ := hrel
      by_cases hlt : k < 16
      · obtain ⟨y, hy⟩ : ∃ y, x[k]? = some y := ⟨_, List.getElem?_eq_getElem (by rw [HX.out]; exact hlt)⟩
        have hcp := cp_len x old k HX.out HO.out hk
        obtain ⟨z, hz⟩ : ∃ z, (cp x old k)[k]? = some z := ⟨_, List.getElem?_eq_getElem (by rw [hcp]; exact hlt)⟩
        have hn' : (bs.set n (cp x old k))[n]? = some (cp x old k) := List.getElem?_set_self HNN.out
        obtain ⟨g', off', cap', hv, hcell, hfz⟩ := hr.at hn' hz
        rw [List.length_set, ← HLL.out] at hv
        cases hv
        have hput := hr.put y hn' hlt
        rw [List.set_set, cp_set x old k y HX.out HO.out hy] at hput
        have hc0 := hr.cell0
        rw [← HQ.out] at hcell hfz hput
        have hcx : wr.cell? ⟨w.heap.size, k, none⟩ = some (.int .u32 y) := by rw [cell_of_row _ _ k _ _ _ hb, row_get, hy]; rfl
        have hw : IntKind.i64.wrap ((P : Int) + (k : Int)) = ((P + k : Nat) : Int) := by simp [IntKind.wrap, IntKind.bits, IntKind.signed]; omega
        have hkL : P + k < L := by omega
        have HPUT := Lib.hid hput
        have HB := Lib.hid hb
        have HG := Lib.hid hg
        have HGB : Hid (w.heap.size ≠ g) := Lib.hid fun e => by
          obtain ⟨c, hc⟩ := hr.bl g rfl
          exact tyne hb hc (by decide) e
        clear hr hb hg hy hz hn' hput hcp
        go_wp2_with fail
        go_region
        have hd : ∀ W : World, W.grownBy W.drew none := fun W => ⟨rfl, rfl, rfl, Nat.le_refl _, fun _ _ _ => rfl⟩
        go_wp2_with fail
        go_roundw
        case rel => exact ⟨k + 1, by omega, by go_num, HPUT.out.1.kept (hd _), (heap_setCell_other _ _ _ _ HGB.out).trans HB.out, grown_trans (grown_trans HG.out HPUT.out.2) (grown_some (hd _) _)⟩
        case measure => simp [intOf]; omega
      · have hkn : k = 16 := by omega
        subst hkn
        rw [cp_all x old HX.out HO.out] at hr
        have HR2 := Lib.hid hr
        have HG := Lib.hid hg
        clear hr hb hg
        go_wp2_with fail
        go_ret
        exact ⟨rfl, HR2.out, HG.out⟩
  · rw [if_neg hin] at hp
    rw [setB, if_neg hin]
    rw [Bool.not_eq_true] at hin
    rw [hin, show err false = 5 from rfl]
    have HP := Lib.hid hp
    have HR := Lib.hid hR
    clear hR hp hin hii hg0 hx16
    go_enter Try.func23, Try.ntmps23
    go_wp2_with (go_at_call 30; ((with_reducible refine HP.out.mono ?_); rintro e w' ⟨rfl, rfl⟩))
    go_ret
    exact ⟨rfl, HR.out.kept (grown_alloc (grown_refl _ _) _), grown_some (grown_alloc (grown_refl _ _) _) _⟩

theorem rnew_err (n : Int) (w : World) (h : n < 1 ∨ 256 < n) : Calls Try.prog 20 #[.int .i64 n] w fun e w' => e = .returned (.tuple #[.pointer none, .int .i64 2]) ∧ w = w' := by
  by_cases h0 : n < 1
  · clear h
    go_enter Try.func20, Try.ntmps20
    go_wp2
    go_ret2
    exact ⟨rfl, rfl⟩
  · have h1 : decide (n < 1) = false := by simp; omega
    have h3 : decide (256 < n) = true := by simp; omega
    clear h h0
    go_enter Try.func20, Try.ntmps20
    go_wp2
    go_ret2
    exact ⟨rfl, rfl⟩

theorem info26 : (Try.prog.info? 26).map (fun i => (i.zero, i.size, i.bytes)) = some (some (.int .u32 0), 1, 4) := by kernel_rfl
theorem flat_zero : ∀ n, (List.replicate n zero).flatten.map U = List.replicate (16 * n) (.int .u32 0)
  | 0 => rfl
  | n + 1 => by
    rw [List.replicate_succ, List.flatten_cons, List.map_append, flat_zero n, show 16 * (n + 1) = 16 + 16 * n by omega, ← List.replicate_append_replicate]
    rfl

theorem rnew_ok (n : Nat) (w : World) (h1 : 1 ≤ n) (h2 : n ≤ 256) : Calls Try.prog 20 #[.int .i64 (n : Int)] w fun e w' => ∃ b v, e = .returned (.tuple #[.pointer (some ⟨b, 0, none⟩), .int .i64 0]) ∧ RMem w' b v (List.replicate n zero) ∧ w.grownBy w' none ∧ w.heap.size ≤ b ∧ ∀ k, v.ownBlock = some k → w.heap.size ≤ k := by
  obtain ⟨i0, hi, hz0, hz1, hz2⟩ := info_parts info26
  have hd1 : decide ((n : Int) < 1) = false := by simp; omega
  have hd2 : decide (256 < (n : Int)) = false := by simp; omega
  obtain ⟨m, hm⟩ : ∃ m, m = 16 * n := ⟨_, rfl⟩
  have hw : IntKind.i64.wrap (16 * (n : Int)) = (m : Int) := by simp [IntKind.wrap, IntKind.bits, IntKind.signed]; omega
  have HMM := Lib.hid hm
  have hm2 : m ≤ 4096 := by omega
  obtain ⟨cs, hcs⟩ : ∃ cs : List Value, cs = List.replicate m (.int .u32 0) := ⟨_, rfl⟩
  have HCS := Lib.hid hcs
  have H2 := Lib.hid h2
  clear hm h1 h2 hcs
  go_enter Try.func20, Try.ntmps20
  go_wp2_with (((with_reducible refine make_at 61 26 i0 (.int .u32 0) 11 11 m Try.underlying61 hi hz0 hz1 ?_ ?_ ?_ ?_ ?_ cs ?_ ?_); (rfl); (rfl); (rfl); (rw [hz2]; omega); (omega); (exact HCS.out)))
  go_ret2
  have hfl : (List.replicate n zero).flatten.map U = cs := by rw [flat_zero, ← HMM.out, HCS.out]
  have hcl : cs.length = m := by rw [HCS.out, List.length_replicate]
  refine ⟨_, _, rfl, ⟨heap_alloc2_new w _ _, .inr ⟨w.heap.size, 0, m, cs.toArray, by rw [hfl, hcl], heap_alloc2_old w _ _, by rw [hfl, hcl]; exact Nat.le_refl _, by unfold maxLen; omega, by simp [hcl], fun k x hk => by rw [hfl] at hk; simpa using hk⟩, fun x hx => by rw [List.eq_of_mem_replicate hx]; rfl, by simpa using H2.out⟩, grown_alloc (grown_alloc (grown_refl _ _) _) _, by omega, fun k hk => by simp [Value.ownBlock] at hk; omega⟩
end Go.Proofs.Ytcbkfgcjjhifdaa.pp
