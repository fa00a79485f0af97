/-
  What use and victim make of a set; what a store of a line makes of a cache: contracts. No condition but the bounds that each theorem names.
-/
import Derived.Test.YtjbapfjeildfoaaDoorC3
namespace Go.Proofs.YtjbapfjeildfoaaDoor.kk
open Go Go.ChangeShapes Go.WideShapes Go.ChangeAt Go.RowKit Go.Shelf
set_option linter.unusedVariables false

/-- What a call leaves alone: every block that was there, but those of O. -/
structure Kept (O : Nat → Prop) (w w' : World) : Prop where
  os : w'.os = w.os
  tape : w'.tape = w.tape
  output : w'.output = w.output
  size : w.heap.size ≤ w'.heap.size
  block : ∀ k, k < w.heap.size → ¬ O k → w'.heap[k]? = w.heap[k]?
theorem Kept.of {O : Nat → Prop} {w w' : World} (h : w.grownBy w' none) : Kept O w w' := ⟨h.os, h.tape, h.output, h.size, fun k hk _ => h.block k hk (by simp)⟩
theorem Kept.one {O : Nat → Prop} {w w' : World} {b : Nat} (h : w.grownBy w' (some b)) (ho : O b) : Kept O w w' := ⟨h.os, h.tape, h.output, h.size, fun k hk hn => h.block k hk (fun e => hn (by cases e; exact ho))⟩
theorem Kept.trans {O : Nat → Prop} {a b c : World} (h : Kept O a b) (k : Kept O b c) : Kept O a c :=
  ⟨k.os.trans h.os, k.tape.trans h.tape, k.output.trans h.output, Nat.le_trans h.size k.size, fun i hi hn => (k.block i (Nat.lt_of_lt_of_le hi h.size) hn).trans (h.block i hi hn)⟩
theorem Kept.below {O : Nat → Prop} {w0 w w' : World} (h : Kept O w w') (hg : w0.grownBy w none) (ho : ∀ k, O k → w0.heap.size ≤ k) : w0.grownBy w' none :=
  ⟨h.os.trans hg.os, h.tape.trans hg.tape, h.output.trans hg.output, Nat.le_trans hg.size h.size, fun k hk _ => (h.block k (Nat.lt_of_lt_of_le hk hg.size) (fun e => by have := ho k e; omega)).trans (hg.block k hk (by simp))⟩

section
variable {w : World} {K : Loc} {c : Cfg} {ss : List St}
theorem Cac.ne1 (h : Cac w K c ss) {q : Nat × Nat} (hq : q ∈ K.gr) : q.1 ≠ K.b ∧ q.1 ≠ K.gs := by
  obtain ⟨_, hc⟩ := h.rowOf hq
  obtain ⟨_, hs⟩ := h.sets
  exact ⟨tyne hc h.blk (by decide), tyne hc hs (by decide)⟩
theorem Cac.ne2 (h : Cac w K c ss) : K.gs ≠ K.b := by
  obtain ⟨_, hs⟩ := h.sets
  exact tyne hs h.blk (by decide)

/-- A row was written. -/
theorem Cac.setRow (h : Cac w K c ss) {i : Nat} {p : St} {q : Nat × Nat} (hp : ss[i]? = some p) (hq : K.gr[i]? = some q) {w' : World} (hg : w.grownBy w' (some q.1)) {ls' : List Ln} (hl : ls'.length = p.1.length) (hr : RowAt w' q.1 ls') :
    Cac w' K c (ss.set i (ls', p.2)) := by
  have hqm := List.mem_of_getElem? hq
  obtain ⟨n1, n2⟩ := h.ne1 hqm
  have hi : i < ss.length := (List.getElem?_eq_some_iff.1 hp).1
  have hb := hg.block K.b h.ltb (fun e => n1 (Option.some.inj e).symm)
  have hs := hg.block K.gs h.ltg (fun e => n2 (Option.some.inj e).symm)
  have hget : ∀ j p', (ss.set i (ls', p.2))[j]? = some p' → (j = i ∧ p' = (ls', p.2)) ∨ (j ≠ i ∧ ss[j]? = some p') := fun j p' hj => by
    by_cases hji : j = i
    · subst hji
      rw [List.getElem?_set_self hi] at hj
      exact .inl ⟨rfl, by cases hj; rfl⟩
    · rw [List.getElem?_set_ne (fun e => hji e.symm)] at hj
      exact .inr ⟨hji, hj⟩
  refine ⟨by rw [List.length_set]; exact hb.trans h.blk, ?_, by rw [List.length_set]; exact h.grl, fun j p' q' hj hq' => ?_, fun j p' hj => ?_, fun j p' q' hj hq' => ?_, h.inj, by rw [List.length_set]; exact h.len, fun p' hp' => ?_, fun p' hp' => ?_, h.may⟩
  · obtain ⟨cur, hc⟩ := h.sets
    exact ⟨cur, hs.trans hc⟩
  · rw [World.cell?_of_block (w := w) (w' := w') (a := ⟨K.gs, j * 2, none⟩) hs]
    rcases hget j p' hj with ⟨rfl, rfl⟩ | ⟨_, hj'⟩
    · rw [h.row _ p q' hp hq']; simp [hl]
    · exact h.row j p' q' hj' hq'
  · rw [World.cell?_of_block (w := w) (w' := w') (a := ⟨K.gs, j * 2 + 1, none⟩) hs]
    rcases hget j p' hj with ⟨rfl, rfl⟩ | ⟨_, hj'⟩
    · exact h.mem _ p hp
    · exact h.mem j p' hj'
  · rcases hget j p' hj with ⟨rfl, rfl⟩ | ⟨hne, hj'⟩
    · rw [hq] at hq'; cases hq'; exact hr
    · exact (h.rows j p' q' hj' hq').grown hg (fun e => hne (h.inj j i q' q hq' hq (Option.some.inj e)))
  · rcases List.mem_or_eq_of_mem_set hp' with hp' | rfl
    · exact h.wid p' hp'
    · rw [hl]; exact h.wid p (List.mem_of_getElem? hp)
  · rcases List.mem_or_eq_of_mem_set hp' with hp' | rfl
    · exact h.mlt p' hp'
    · exact h.mlt p (List.mem_of_getElem? hp)
/-- A memory was written. -/
theorem Cac.setMem (h : Cac w K c ss) {i : Nat} {p : St} (hp : ss[i]? = some p) (m : Nat) (hm : m < 256) :
    Cac (w.setCell ⟨K.gs, i * 2 + 1, none⟩ (.int .u8 (m : Int))) K c (ss.set i (p.1, m)) := by
  have hi : i < ss.length := (List.getElem?_eq_some_iff.1 hp).1
  have hg := grown_setCell w K.gs (i * 2 + 1) (.int .u8 (m : Int))
  have hb := hg.block K.b h.ltb (fun e => h.ne2 (Option.some.inj e).symm)
  have hget : ∀ j p', (ss.set i (p.1, m))[j]? = some p' → (j = i ∧ p' = (p.1, m)) ∨ (j ≠ i ∧ ss[j]? = some p') := fun j p' hj => by
    by_cases hji : j = i
    · subst hji
      rw [List.getElem?_set_self hi] at hj
      exact .inl ⟨rfl, by cases hj; rfl⟩
    · rw [List.getElem?_set_ne (fun e => hji e.symm)] at hj
      exact .inr ⟨hji, hj⟩
  have hother : ∀ o u, o ≠ i * 2 + 1 → w.cell? ⟨K.gs, o, none⟩ = some u → (w.setCell ⟨K.gs, i * 2 + 1, none⟩ (.int .u8 (m : Int))).cell? ⟨K.gs, o, none⟩ = some u := fun o u ho hu => by
    have := World.rangeAt_setCells_apart (w := w) (b' := K.gs) (o' := o) (cs := [u]) (fun j v hv => by
      match j, hv with
      | 0, hv => simp at hv; subst hv; exact hu
      | j + 1, hv => simp at hv) K.gs (i * 2 + 1) [.int .u8 (m : Int)] (.inr (by simp; omega))
    exact this 0 u rfl
  refine ⟨by rw [List.length_set]; exact hb.trans h.blk, ?_, by rw [List.length_set]; exact h.grl, fun j p' q' hj hq' => ?_, fun j p' hj => ?_, fun j p' q' hj hq' => ?_, h.inj, by rw [List.length_set]; exact h.len, fun p' hp' => ?_, fun p' hp' => ?_, h.may⟩
  · exact blk_setCells [.int .u8 (m : Int)] (i * 2 + 1) w h.sets
  · rcases hget j p' hj with ⟨rfl, rfl⟩ | ⟨_, hj'⟩
    · exact hother _ _ (by omega) (h.row _ p q' hp hq')
    · exact hother _ _ (by omega) (h.row j p' q' hj' hq')
  · rcases hget j p' hj with ⟨rfl, rfl⟩ | ⟨hne, hj'⟩
    · have h0 := h.mem _ p hp
      exact World.cell?_setCells_in K.gs [.int .u8 (m : Int)] (j * 2 + 1) w (fun i hi => by simp at hi; subst hi; rw [Nat.add_zero, h0]; rfl) 0 (by simp)
    · exact hother _ _ (by omega) (h.mem j p' hj')
  · have hr : ∀ p'', ss[j]? = some p'' → RowAt (w.setCell ⟨K.gs, i * 2 + 1, none⟩ (.int .u8 (m : Int))) q'.1 p''.1 := fun p'' hj' => (h.rows j p'' q' hj' hq').grown hg (fun e => (h.ne1 (List.mem_of_getElem? hq')).2 (Option.some.inj e))
    rcases hget j p' hj with ⟨rfl, rfl⟩ | ⟨hne, hj'⟩
    · exact hr p hp
    · exact hr p' hj'
  · rcases List.mem_or_eq_of_mem_set hp' with hp' | rfl
    · exact h.wid p' hp'
    · exact h.wid p (List.mem_of_getElem? hp)
  · rcases List.mem_or_eq_of_mem_set hp' with hp' | rfl
    · exact h.mlt p' hp'
    · exact hm
theorem Cac.good (h : Cac w K c ss) {p : St} (hp : p ∈ ss) : good (p.1.length : Int) := by
  have h1 := h.wid p hp
  have h2 := h.may.ways
  unfold kk.good
  rw [h1]; exact h2
theorem Cac.fr (h : Cac w K c ss) (o : Nat) : w.frozen? ⟨K.gs, o, none⟩ = false := by
  obtain ⟨_, hs⟩ := h.sets
  exact frozen_of_row _ _ _ _ _ hs
end

theorem victim_any (K : Loc) (c : Cfg) (ss : List St) (i : Nat) (p : St) (w : World) (hC : Cac w K c ss) (hp : ss[i]? = some p) :
    Calls Tryd.prog 34 #[.pointer (some ⟨K.gs, i * 2, none⟩)] w fun e w' => e = .returned (.int .i64 (vc p.2 p.1.length : Nat)) ∧ ∃ n, w' = w.drewN n := by
  obtain ⟨q, hq⟩ : ∃ q, K.gr[i]? = some q := ⟨_, List.getElem?_eq_getElem (by rw [hC.grl]; exact (List.getElem?_eq_some_iff.1 hp).1)⟩
  have hmem := List.mem_of_getElem? hp
  have HV : Hid (∀ w, _) := Lib.hid (fun w => victim_in p.2 p.1.length w (hC.mlt p hmem) (hC.good hmem))
  have c1 := hC.row i p q hp hq
  have c2 := hC.mem i p hp
  generalize p.1.length = n at *
  clear hC hp hq hmem
  go_enter Tryd.func34, Tryd.ntmps34
  go_wp2_with fail
  go_quiet ((go_at_call 53; exact Calls.quiet_of_same ((HV.out _).mono fun e w' h => ⟨h.1, h.2.symm⟩)))
  go_wp2_with fail
  go_ret
  exact ⟨rfl, _, rfl⟩

set_option maxHeartbeats 1000000 in
theorem use_any (K : Loc) (c : Cfg) (ss : List St) (i : Nat) (p : St) (way : Nat) (w : World) (hC : Cac w K c ss) (hp : ss[i]? = some p) (hw : way < p.1.length) :
    Calls Tryd.prog 33 #[.pointer (some ⟨K.gs, i * 2, none⟩), .int .i64 (way : Int)] w fun e w' => (∃ v, e = .returned v) ∧ Cac w' K c (ss.set i (p.1, us p.2 p.1.length way)) ∧ Kept K.own w w' := by
  obtain ⟨q, hq⟩ : ∃ q, K.gr[i]? = some q := ⟨_, List.getElem?_eq_getElem (by rw [hC.grl]; exact (List.getElem?_eq_some_iff.1 hp).1)⟩
  have hmem := List.mem_of_getElem? hp
  have HU : Hid (∀ w, _) := Lib.hid (fun w => use_in p.2 p.1.length way w (hC.mlt p hmem) (hC.good hmem) hw)
  have c1 := hC.row i p q hp hq
  have c2 := hC.mem i p hp
  have f2 := hC.fr (i * 2 + 1)
  have HM := Lib.hid (us_lt p.2 p.1.length way (hC.mlt p hmem) hw (hC.wid4 hmem).1)
  have HC := Lib.hid hC
  have HP := Lib.hid hp
  have HE : Hid (∀ k, Cac (((w.drewN k).setCell ⟨K.gs, i * 2 + 1, none⟩ (.int .u8 (us p.2 p.1.length way : Nat)))) K c (ss.set i (p.1, us p.2 p.1.length way)) ∧ Kept K.own w (((w.drewN k).setCell ⟨K.gs, i * 2 + 1, none⟩ (.int .u8 (us p.2 p.1.length way : Nat))))) := Lib.hid fun k =>
    ⟨(hC.grown (grown_drewN w k none)).setMem hp _ HM.out, (Kept.of (grown_drewN w k none)).trans (Kept.one (grown_setCell _ _ _ _) (.inl rfl))⟩
  generalize us p.2 p.1.length way = m' at *
  generalize p.1.length = n at *
  clear hC hp hq hmem hw
  go_enter Tryd.func33, Tryd.ntmps33
  go_region_with (first | (go_at_call 52; ((refine (HU.out _).mono ?_); rintro e w5 ⟨rfl, n5, rfl⟩)))
  all_goals
    go_end0
    exact ⟨⟨_, rfl⟩, HE.out _⟩
end Go.Proofs.YtjbapfjeildfoaaDoor.kk
