/-
  Marks: where they lie, what Read, Write, Has, Meets, Clear answer and make of them; the same of none: definitions and contracts. No condition but what each theorem names.
-/
import Derived.Test.YtinogiidiommkaaGreatDoorMkA
namespace Go.Proofs.YtinogiidiommkaaGreatDoor.mrk
open Go Go.ChangeShapes Go.WideShapes Go.ChangeAt Go.RowKit
open Go.Proofs.YtinogiidiommkaaGreatDoor.tt (grown_refl grown_alloc grown_trans grown_drew grown_drewN lt_of MapAt mput ik run_lookup_map map_store tyne)
set_option linter.unusedVariables false
set_option maxRecDepth 1000000

/-- Where marks of N data blocks lie: the struct in block t, the map in block b. -/
structure MkAt (w : World) (t b N : Nat) (s : Ms) : Prop where
  blk : w.heap[t]? = some (.cells #[.int .i64 (N : Int), .map (some b)] 161 (0, 0))
  map : MapAt w b (mf s)
  dom : Dom (N : Int) s
  small : N ≤ 256
section
variable {w w' : World} {t b N : Nat} {s s' : Ms}
theorem MkAt.lt (h : MkAt w t b N s) : t < w.heap.size := lt_of h.blk
theorem MkAt.c0 (h : MkAt w t b N s) : w.cell? ⟨t, 0, none⟩ = some (.int .i64 (N : Int)) := by simp [World.cell?, h.blk]
theorem MkAt.c1 (h : MkAt w t b N s) : w.cell? ⟨t, 1, none⟩ = some (.map (some b)) := by simp [World.cell?, h.blk]
theorem MkAt.tb (h : MkAt w t b N s) : t ≠ b := fun e => by
  obtain ⟨es, c, hb, _⟩ := h.map
  have := h.blk
  rw [e, hb] at this
  cases this
theorem MkAt.of_block (h : MkAt w t b N s) (h1 : w'.heap[t]? = w.heap[t]?) (h2 : w'.heap[b]? = w.heap[b]?) : MkAt w' t b N s := ⟨h1.trans h.blk, h.map.same h2, h.dom, h.small⟩
theorem MkAt.grown (h : MkAt w t b N s) (hg : w.grownBy w' none) : MkAt w' t b N s := h.of_block (hg.block t h.lt (by simp)) (hg.block b h.map.lt (by simp))
theorem MkAt.next (h : MkAt w t b N s) (hg : w.grownBy w' (some b)) (hm : MapAt w' b (mf s')) (hd : Dom (N : Int) s') : MkAt w' t b N s' :=
  ⟨(hg.block t h.lt (fun e => h.tb (Option.some.inj e))).trans h.blk, hm, hd, h.small⟩
/-- Another one is left alone. -/
theorem MkAt.other {t2 b2 N2 : Nat} {s2 : Ms} (h : MkAt w t2 b2 N2 s2) (hb : b2 ≠ b) (ht : t2 ≠ b) (hg : w.grownBy w' (some b)) : MkAt w' t2 b2 N2 s2 :=
  h.of_block (hg.block t2 h.lt (fun e => ht (Option.some.inj e))) (hg.block b2 h.map.lt (fun e => hb (Option.some.inj e)))
end
theorem grown_of_below {w w' : World} (h : Below w.heap.size w w') : w.grownBy w' none := ⟨h.os, h.tape, h.output, h.size, fun k hk _ => h.block k hk⟩
/-- What Read, Write answer; what Meets answers. -/
def addE (N : Nat) (k : Int) : Int := if k < 0 ∨ (N : Int) ≤ k then 2 else 0
def rdS (N : Nat) (s : Ms) (k : Int) : Ms := if addE N k = 0 then s.rd k else s
def wrS (N : Nat) (s : Ms) (k : Int) : Ms := if addE N k = 0 then s.wr k else s
def meets (s : Ms) (kd k : Int) : Bool := (decide (kd = 4) && s.w k) || (decide (kd = 5) && s.any k)
theorem addE_out {N : Nat} {k : Int} (h : k < 0 ∨ (N : Int) ≤ k) : addE N k = 2 := by unfold addE; rw [if_pos h]
theorem addE_in {N : Nat} {k : Int} (h : 0 ≤ k ∧ k < (N : Int)) : addE N k = 0 := by unfold addE; rw [if_neg (by omega)]
theorem or_rd (r w : Bool) : bits .or .u8 (mv r w) 1 = mv true w := by cases r <;> cases w <;> decide +kernel
theorem or_wr (r w : Bool) : bits .or .u8 (mv r w) 2 = mv r true := by cases r <;> cases w <;> decide +kernel

section
variable {w : World} {t b N : Nat} {s : Ms} (H : MkAt w t b N s)
include H
set_option maxHeartbeats 1000000
theorem of_any (k : Int) : Calls Tryz.prog 120 #[.pointer (some ⟨t, 0, none⟩), .int .i64 k] w fun e w' => e = .returned (.int .u8 (s.v k)) ∧ w = w' := by
  have hc := H.c1
  have hl := run_lookup_map Tryz.underlying159 Tryz.underlying3 H.map (z := .int .u8 0) (Tryz.zeroValue168 w) k
  rw [mf_get] at hl
  generalize s.v k = x at hl ⊢
  clear H
  go_enter Tryz.func120, Tryz.ntmps120
  go_wp2
  go_ret
  exact ⟨rfl, rfl⟩
theorem add_out (k m : Int) (h : k < 0 ∨ (N : Int) ≤ k) : Calls Tryz.prog 88 #[.pointer (some ⟨t, 0, none⟩), .int .i64 k, .int .u8 m] w fun e w' => e = .returned (.int .i64 2) ∧ w = w' := by
  have hc := H.c0
  by_cases h0 : k < 0
  · clear H h
    go_enter Tryz.func88, Tryz.ntmps88
    go_wp2
    go_ret
    exact ⟨rfl, rfl⟩
  · have h1 : (N : Int) ≤ k := by omega
    have h2 : decide ((N : Int) ≤ k) = true := by simpa using h1
    have h3 : decide (k < 0) = false := by simp; omega
    clear H h h0 h1
    go_enter Tryz.func88, Tryz.ntmps88
    go_wp2
    go_ret
    exact ⟨rfl, rfl⟩
theorem add_in (k m y : Int) (h : 0 ≤ k ∧ k < (N : Int)) (hy : bits .or .u8 (s.v k) m = y) : Calls Tryz.prog 88 #[.pointer (some ⟨t, 0, none⟩), .int .i64 k, .int .u8 m] w fun e w' => e = .returned (.int .i64 0) ∧ MapAt w' b (mput (mf s) k (.int .u8 y)) ∧ w.grownBy w' (some b) := by
  have hc := H.c0
  have hc1 := H.c1
  have hl := run_lookup_map Tryz.underlying159 Tryz.underlying3 H.map (z := .int .u8 0) (Tryz.zeroValue168 w) k
  rw [mf_get] at hl
  have HM := Lib.hid H.map
  generalize s.v k = x at hl hy ⊢
  have h2 : decide ((N : Int) ≤ k) = false := by simp; omega
  have h3 : decide (k < 0) = false := by simp; omega
  clear H h
  go_enter Tryz.func88, Tryz.ntmps88
  go_wp2_with ((with_reducible refine map_store 159 168 Tryz.underlying159 Tryz.underlying3 _ _ _ b (mf s) k (.int .u8 y) ?_ ?_ ?_ HM.out ?_); (rfl); (rfl); (rfl); intro w1 hm1 hg1; have HM1 := Lib.hid hm1; have HG1 := Lib.hid hg1; clear hm1 hg1)
  go_ret
  exact ⟨rfl, HM1.out, HG1.out⟩
theorem read_any (k : Int) : Calls Tryz.prog 54 #[.pointer (some ⟨t, 0, none⟩), .int .i64 k] w fun e w' => e = .returned (.int .i64 (addE N k)) ∧ MkAt w' t b N (rdS N s k) ∧ w.grownBy w' (some b) := by
  by_cases h : k < 0 ∨ (N : Int) ≤ k
  · have HA := Lib.hid (add_out H k 1 h)
    have HR : Hid (MkAt w t b N (rdS N s k)) := Lib.hid (by unfold rdS; rw [addE_out h, if_neg (by decide)]; exact H)
    rw [addE_out h]
    clear H h
    go_enter Tryz.func54, Tryz.ntmps54
    go_wp2_with (go_at_call 88; ((with_reducible refine HA.out.mono ?_); rintro e w1 ⟨rfl, rfl⟩))
    go_ret
    exact ⟨rfl, HR.out, grown_refl _ _⟩
  · have hi : 0 ≤ k ∧ k < (N : Int) := by omega
    have HA := Lib.hid (add_in H k 1 (mv true (s.w k)) hi (or_rd _ _))
    have HH := Lib.hid H
    have HI := Lib.hid hi
    rw [addE_in hi]
    unfold rdS
    rw [addE_in hi, if_pos rfl]
    clear H h hi
    go_enter Tryz.func54, Tryz.ntmps54
    go_wp2_with (go_at_call 88; ((with_reducible refine HA.out.mono ?_); rintro e w1 ⟨rfl, hm1, hg1⟩; have HM1 := Lib.hid hm1; have HG1 := Lib.hid hg1; clear hm1 hg1))
    go_ret
    exact ⟨rfl, HH.out.next HG1.out (by rw [← mput_rd]; exact HM1.out) (dom_rd HH.out.dom HI.out), HG1.out⟩
theorem write_any (k : Int) : Calls Tryz.prog 50 #[.pointer (some ⟨t, 0, none⟩), .int .i64 k] w fun e w' => e = .returned (.int .i64 (addE N k)) ∧ MkAt w' t b N (wrS N s k) ∧ w.grownBy w' (some b) := by
  by_cases h : k < 0 ∨ (N : Int) ≤ k
  · have HA := Lib.hid (add_out H k 2 h)
    have HR : Hid (MkAt w t b N (wrS N s k)) := Lib.hid (by unfold wrS; rw [addE_out h, if_neg (by decide)]; exact H)
    rw [addE_out h]
    clear H h
    go_enter Tryz.func50, Tryz.ntmps50
    go_wp2_with (go_at_call 88; ((with_reducible refine HA.out.mono ?_); rintro e w1 ⟨rfl, rfl⟩))
    go_ret
    exact ⟨rfl, HR.out, grown_refl _ _⟩
  · have hi : 0 ≤ k ∧ k < (N : Int) := by omega
    have HA := Lib.hid (add_in H k 2 (mv (s.r k) true) hi (or_wr _ _))
    have HH := Lib.hid H
    have HI := Lib.hid hi
    rw [addE_in hi]
    unfold wrS
    rw [addE_in hi, if_pos rfl]
    clear H h hi
    go_enter Tryz.func50, Tryz.ntmps50
    go_wp2_with (go_at_call 88; ((with_reducible refine HA.out.mono ?_); rintro e w1 ⟨rfl, hm1, hg1⟩; have HM1 := Lib.hid hm1; have HG1 := Lib.hid hg1; clear hm1 hg1))
    go_ret
    exact ⟨rfl, HH.out.next HG1.out (by rw [← mput_wr]; exact HM1.out) (dom_wr HH.out.dom HI.out), HG1.out⟩
theorem has_any (k : Int) : Calls Tryz.prog 79 #[.pointer (some ⟨t, 0, none⟩), .int .i64 k] w fun e w' => e = .returned (.tuple #[.bool (s.r k), .bool (s.w k)]) ∧ w = w' := by
  have ho := of_any H k
  clear H
  unfold Ms.v at ho
  generalize s.r k = r at ho ⊢
  generalize s.w k = x at ho ⊢
  have b1 : bits .and .u8 0 1 = 0 := by decide +kernel
  have b2 : bits .and .u8 0 2 = 0 := by decide +kernel
  have b3 : bits .and .u8 1 1 = 1 := by decide +kernel
  have b4 : bits .and .u8 1 2 = 0 := by decide +kernel
  have b5 : bits .and .u8 2 1 = 0 := by decide +kernel
  have b6 : bits .and .u8 2 2 = 2 := by decide +kernel
  have b7 : bits .and .u8 3 1 = 1 := by decide +kernel
  have b8 : bits .and .u8 3 2 = 2 := by decide +kernel
  cases r <;> cases x
  all_goals
    simp only [mv, Bool.false_eq_true, if_true, if_false, Int.zero_add, Int.add_zero, Int.reduceAdd] at ho
    have HO := Lib.hid ho
    clear ho
    go_enter Tryz.func79, Tryz.ntmps79
    go_wp2_with (go_at_call 120; ((with_reducible refine HO.out.mono ?_); rintro e w1 ⟨rfl, rfl⟩))
    go_ret2
    exact ⟨rfl, rfl⟩
theorem meets_any (kd k : Int) : Calls Tryz.prog 141 #[.pointer (some ⟨t, 0, none⟩), .int .u8 kd, .int .i64 k] w fun e w' => e = .returned (.bool (meets s kd k)) ∧ w = w' := by
  have ho := of_any H k
  clear H
  unfold Ms.v at ho
  unfold meets Ms.any
  generalize s.r k = r at ho ⊢
  generalize s.w k = x at ho ⊢
  have b2 : bits .and .u8 0 2 = 0 := by decide +kernel
  have b4 : bits .and .u8 1 2 = 0 := by decide +kernel
  have b6 : bits .and .u8 2 2 = 2 := by decide +kernel
  have b8 : bits .and .u8 3 2 = 2 := by decide +kernel
  by_cases h4 : kd = 4
  · subst h4
    cases r <;> cases x
    all_goals
      simp only [mv, Bool.false_eq_true, if_true, if_false, Int.zero_add, Int.add_zero, Int.reduceAdd] at ho
      have HO := Lib.hid ho
      clear ho
      go_enter Tryz.func141, Tryz.ntmps141
      go_wp2_with (go_at_call 120; ((with_reducible refine HO.out.mono ?_); rintro e w1 ⟨rfl, rfl⟩))
      go_ret
      exact ⟨rfl, rfl⟩
  · by_cases h5 : kd = 5
    · subst h5
      clear h4
      cases r <;> cases x
      all_goals
        simp only [mv, Bool.false_eq_true, if_true, if_false, Int.zero_add, Int.add_zero, Int.reduceAdd] at ho
        have HO := Lib.hid ho
        clear ho
        go_enter Tryz.func141, Tryz.ntmps141
        go_wp2_with (go_at_call 120; ((with_reducible refine HO.out.mono ?_); rintro e w1 ⟨rfl, rfl⟩))
        go_ret
        exact ⟨rfl, rfl⟩
    · have e4 : (kd == 4) = false := by simpa using h4
      have e5 : (kd == 5) = false := by simpa using h5
      rw [decide_eq_false h4, decide_eq_false h5]
      clear ho h4 h5
      go_enter Tryz.func141, Tryz.ntmps141
      go_wp2
      go_ret
      exact ⟨rfl, rfl⟩
theorem clear_any : Calls Tryz.prog 53 #[.pointer (some ⟨t, 0, none⟩)] w fun e w' => e = .returned (.tuple #[]) ∧ MkAt w' t b N Ms.zero ∧ w.grownBy w' (some b) := by
  have hc := H.c1
  have HM := Lib.hid H.map
  have HH := Lib.hid H
  clear H
  go_enter Tryz.func53, Tryz.ntmps53
  go_wp2_with ((with_reducible refine map_clear 159 168 Tryz.underlying159 _ b (mf s) ?_ HM.out ?_); (rfl); intro w1 hm1 hg1; have HM1 := Lib.hid hm1; have HG1 := Lib.hid hg1; clear hm1 hg1)
  refine bodyPost_end (results_none rfl _ _ _) rfl ?_
  exact ⟨rfl, HH.out.next HG1.out HM1.out (dom_zero _), HG1.out⟩
end

set_option maxHeartbeats 1000000
theorem of_nil (k : Int) (w : World) : Calls Tryz.prog 120 #[.pointer none, .int .i64 k] w fun e w' => e = .returned (.int .u8 0) ∧ w = w' := by
  go_enter Tryz.func120, Tryz.ntmps120
  go_wp2
  go_ret
  exact ⟨rfl, rfl⟩
theorem add_nil (k m : Int) (w : World) : Calls Tryz.prog 88 #[.pointer none, .int .i64 k, .int .u8 m] w fun e w' => e = .returned (.int .i64 1) ∧ w = w' := by
  go_enter Tryz.func88, Tryz.ntmps88
  go_wp2
  go_ret
  exact ⟨rfl, rfl⟩
theorem read_nil (k : Int) (w : World) : Calls Tryz.prog 54 #[.pointer none, .int .i64 k] w fun e w' => e = .returned (.int .i64 1) ∧ w = w' := by
  have HA := Lib.hid (add_nil k 1 w)
  go_enter Tryz.func54, Tryz.ntmps54
  go_wp2_with (go_at_call 88; ((with_reducible refine HA.out.mono ?_); rintro e w1 ⟨rfl, rfl⟩))
  go_ret
  exact ⟨rfl, rfl⟩
theorem write_nil (k : Int) (w : World) : Calls Tryz.prog 50 #[.pointer none, .int .i64 k] w fun e w' => e = .returned (.int .i64 1) ∧ w = w' := by
  have HA := Lib.hid (add_nil k 2 w)
  go_enter Tryz.func50, Tryz.ntmps50
  go_wp2_with (go_at_call 88; ((with_reducible refine HA.out.mono ?_); rintro e w1 ⟨rfl, rfl⟩))
  go_ret
  exact ⟨rfl, rfl⟩
theorem has_nil (k : Int) (w : World) : Calls Tryz.prog 79 #[.pointer none, .int .i64 k] w fun e w' => e = .returned (.tuple #[.bool false, .bool false]) ∧ w = w' := by
  have HO := Lib.hid (of_nil k w)
  have b1 : bits .and .u8 0 1 = 0 := by decide +kernel
  have b2 : bits .and .u8 0 2 = 0 := by decide +kernel
  go_enter Tryz.func79, Tryz.ntmps79
  go_wp2_with (go_at_call 120; ((with_reducible refine HO.out.mono ?_); rintro e w1 ⟨rfl, rfl⟩))
  go_ret2
  exact ⟨rfl, rfl⟩
theorem meets_nil5 (k : Int) (w : World) : Calls Tryz.prog 141 #[.pointer none, .int .u8 5, .int .i64 k] w fun e w' => e = .returned (.bool false) ∧ w = w' := by
  have HO := Lib.hid (of_nil k w)
  go_enter Tryz.func141, Tryz.ntmps141
  go_wp2_with (go_at_call 120; ((with_reducible refine HO.out.mono ?_); rintro e w1 ⟨rfl, rfl⟩))
  go_ret
  exact ⟨rfl, rfl⟩
theorem clear_nil (w : World) : Calls Tryz.prog 53 #[.pointer none] w fun e w' => e = .returned (.tuple #[]) ∧ w = w' := by
  go_enter Tryz.func53, Tryz.ntmps53
  go_wp2
  refine bodyPost_end (results_none rfl _ _ _) rfl ?_
  exact ⟨rfl, rfl⟩
theorem copy_nil (w : World) : Calls Tryz.prog 62 #[.pointer none] w fun e w' => e = .returned (.pointer none) ∧ w = w' := by
  go_enter Tryz.func62, Tryz.ntmps62
  go_wp2
  go_ret
  exact ⟨rfl, rfl⟩
end Go.Proofs.YtinogiidiommkaaGreatDoor.mrk
