/-
  What putNumber makes of a buffer: contract. No condition but the bounds that each theorem names.
-/
import Derived.Test.YthmnjoanehepcaaDoorB4
namespace Go.Proofs.YthmnjoanehepcaaDoor.nn
open Go Go.ChangeShapes Go.WideShapes Go.ChangeAt Go.RowKit
set_option linter.unusedVariables false

/-- A slice of bytes in a block that is newer than the world w0. -/
structure Buf (w0 w : World) (v : Value) (bs : List UInt8) : Prop where
  sl : Sl w 5 v (bs.map bcell)
  grown : w0.grownBy w none
  new : ∀ k, v.ownBlock = some k → w0.heap.size ≤ k
theorem Buf.next {w0 w w' : World} {v v' : Value} {bs cs : List UInt8} (h : Buf w0 w v bs) (hs : Sl w' 5 v' (bs.map bcell ++ cs.map bcell)) (hg : w.grownBy w' v.ownBlock) (hn : Next w w' v v') : Buf w0 w' v' (bs ++ cs) :=
  ⟨by rw [List.map_append]; exact hs,
   ⟨hg.os.trans h.grown.os, hg.tape.trans h.grown.tape, hg.output.trans h.grown.output, Nat.le_trans h.grown.size hg.size, fun k hk _ =>
     (hg.block k (Nat.lt_of_lt_of_le hk h.grown.size) (fun e => by have := h.new k e.symm; omega)).trans (h.grown.block k hk (by simp))⟩,
   fun k hk => by
     rcases hn with e | e
     · exact h.new k (e ▸ hk)
     · exact Nat.le_trans h.grown.size (e k hk)⟩
theorem Buf.more {w0 w w' : World} {v : Value} {bs : List UInt8} (h : Buf w0 w v bs) (hg : w.grownBy w' none) : Buf w0 w' v bs :=
  ⟨h.sl.of_block (fun g e => hg.block g (h.sl.lt g e) (by simp)), grown_trans h.grown hg, h.new⟩
theorem info5 : (Tryd.prog.info? 5).map (fun i => (i.zero, i.size, i.bytes)) = some (some (.int .u8 0), 1, 1) := by kernel_rfl

set_option maxHeartbeats 1000000 in
theorem putNumber_any (w0 : World) (bs : List UInt8) (x m : Nat) (v : Value) (hm : m ≤ 8) (hx : x < 18446744073709551616) (hbs : bs.length ≤ 1000) (w : World) (hB : Buf w0 w v bs) : Calls Tryd.prog 19 #[v, .int .u64 (x : Int), .int .i64 (m : Int)] w fun e w' => ∃ v', e = .returned v' ∧ Buf w0 w' v' (bs ++ lowb x m) := by
  obtain ⟨i0, hi, hz0, hz1, hz2⟩ := info_parts info5
  have HX := Lib.hid hx
  have HB := Lib.hid hB
  clear hB
  go_enter Tryd.func19, Tryd.ntmps19
  go_wp2
  go_loopw [0, 9] (fun a b wr => ∃ k : Nat, k ≤ m ∧ b = .int .i64 (k : Int) ∧ Buf w0 wr a (bs ++ lowb x k)) (fun _ b _ => m - (intOf b).toNat)
  case atStart => exact ⟨0, Nat.zero_le _, rfl, by simpa [lowb] using HB.out⟩
  case round =>
    obtain ⟨k, hk, rfl, hb⟩ := hrel
    have HBK := Lib.hid hb
    clear hb
    by_cases hlt : k < m
    · have hk8 : k < 8 := by omega
      have HC : Hid (bcell (byt x k) = .int .u8 ((x : Int) / 2 ^ (8 * k) % 256)) := Lib.hid (by rw [bcell, byt_nat, pow256]; simp)
      have HLN : Hid ((bs ++ lowb x k).map bcell = (bs ++ lowb x k).map bcell ∧ ((bs ++ lowb x k).map bcell).length + 1 ≤ 65536) := Lib.hid ⟨rfl, by simp [lowb_len]; omega⟩
      have HL := Lib.hid (lowb_succ x k)
      go_wp2_with (at_builtin; refine wpList_append_sl rfl (.tmp 12) (.tmp 18) 42 42 rfl 5 i0 (.int .u8 0) 1 Tryd.underlying42 hi hz0 hz1 hz2 rfl _ ((bs ++ lowb x k).map bcell) rfl (HBK.out.more (grown_alloc (grown_refl _ _) _)).sl 1 [bcell (byt x k)] (by rw [HC.out]; exact src_one _ _ _ Tryd.underlying42 rfl) (by have := HLN.out.2; unfold maxLen; omega) (by have := HLN.out.2; omega) ?_; intro v' w2 hsl hgr hnx; have HN := Lib.hid ((HBK.out.more (grown_alloc (grown_refl _ _) _)).next (cs := [byt x k]) hsl hgr hnx); clear hsl hgr hnx)
      go_roundw
      case rel => exact ⟨k + 1, by omega, by go_num, by rw [HL.out, ← List.append_assoc]; exact HN.out⟩
      case measure => simp [intOf]; omega
    · obtain rfl : k = m := by omega
      go_wp2_with fail
      go_ret
      exact ⟨_, rfl, HBK.out⟩
end Go.Proofs.YthmnjoanehepcaaDoor.nn
