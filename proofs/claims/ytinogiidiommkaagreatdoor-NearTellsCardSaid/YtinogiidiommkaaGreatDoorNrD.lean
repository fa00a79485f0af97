/-
  What a near tells the home: that what a transaction marked is kept, that data which goes out is what the core had last: plain data. No condition but what each theorem names.
-/
import Derived.Test.YtinogiidiommkaaGreatDoorNrC
namespace Go.Proofs.YtinogiidiommkaaGreatDoor.nr
open Go
open Go.Proofs.YtinogiidiommkaaGreatDoor.tt (Cfg Nt bare zd fits)
open Go.Proofs.YtinogiidiommkaaGreatDoor.kk (Ln St zl cfind cdrop cuse cgoes cwrite cturn cput setAt setOf live fF upd del Shp)
open Go.Proofs.YtinogiidiommkaaGreatDoor.bk (Bk rem kills puts putE fd fl Nd Rg dead fresh)
open Go.Proofs.YtinogiidiommkaaGreatDoor.mrk (Ms rdS wrS meets addE Dom)
open Go.Proofs.YtinogiidiommkaaGreatDoor.de (Dl sT gE rF aD)
open Go.Proofs.YtinogiidiommkaaGreatDoor.oo (ref)
set_option linter.unusedVariables false

section
variable {P : Pm} {k : Nr} {n : Nt}
theorem sT_open (I : Inv P k) (h : 0 < k.d.de) : sT k.d ≠ 0 := by
  have hd : k.d.de ≠ 0 := by omega
  unfold sT
  rw [if_neg hd]; exact I.dl.st0 hd
theorem takeE_mid (h4 : n.k = 4 ∨ n.k = 5) : takeE P k n = 0 ↔ (fits P.c n ∧ n.t = P.core) := by
  constructor
  · exact takeE_fit
  · intro hf
    unfold takeE
    rw [if_neg (fun h => h hf), if_neg (by omega), if_neg (by omega), if_neg (by omega)]
/-- What was marked is refused, and nothing else changes. -/
theorem kept (I : Inv P k) (hE : takeE P k n = 0) (ho : 0 < k.d.de) (hm : (n.k = 4 ∧ k.ms.w n.b = true) ∨ (n.k = 5 ∧ k.ms.any n.b = true)) :
    takeO P k n = [refN P k n] ∧ (refN P k n).st = sT (takeS P k n).d ∧ (takeS P k n).ss = k.ss ∧ (refN P k n).k = 10 := by
  have hs := sT_open I ho
  have hme : met k n = true := by
    unfold met meets
    rcases hm with ⟨h1, h2⟩ | ⟨h1, h2⟩ <;> simp [h1, h2]
  have hr : rfs k n = true := by unfold rfs ref; simp [hs, hme]
  have h4 : n.k = 4 ∨ n.k = 5 := by rcases hm with h | h <;> simp [h.1]
  have e6 : ¬ n.k = 6 := by omega
  have e7 : ¬ n.k = 7 := by omega
  have e8 : ¬ n.k = 8 := by omega
  have e78 : ¬ (n.k = 7 ∨ n.k = 8) := by omega
  refine ⟨by unfold takeO; rw [if_neg (by simpa using hE), if_neg e6, if_neg e78, if_pos hr], ?_, ?_, rfl⟩
  · unfold takeS
    rw [if_neg (by simpa using hE), if_neg e6, if_neg e7, if_neg e8, if_pos hr]
    rfl
  · unfold takeS
    rw [if_neg (by simpa using hE), if_neg e6, if_neg e7, if_neg e8, if_pos hr]
theorem take_ms : (takeS P k n).ms = k.ms := by
  unfold takeS
  split
  · rfl
  · split
    · rfl
    · split
      · rfl
      · split
        · rfl
        · split <;> rfl
theorem take_de : (takeS P k n).d.de = k.d.de := by
  unfold takeS
  split
  · rfl
  · split
    · rfl
    · split
      · rfl
      · split
        · rfl
        · split <;> rfl
theorem ask_ms (b : Int) (wr : Bool) : (askS P k b wr).ms = k.ms ∧ (askS P k b wr).d = k.d := by
  unfold askS; split <;> exact ⟨rfl, rfl⟩
theorem ack_form (x : Nt) (hx : x = ackN P k n) : x.k = 9 ∧ x.f = P.core ∧ x.t = -1 ∧ x.b = n.b ∧ x.q = false := by
  subst hx
  unfold ackN
  split
  · exact ⟨rfl, rfl, rfl, rfl, rfl⟩
  · split
    · split
      · exact ⟨rfl, rfl, rfl, rfl, rfl⟩
      · exact ⟨rfl, rfl, rfl, rfl, rfl⟩
    · exact ⟨rfl, rfl, rfl, rfl, rfl⟩
/-- What goes out of an ask. -/
theorem askO_mem {b : Int} {wr : Bool} {x : Nt} (hx : x ∈ askO P k b wr) : goesOut P k b wr = true ∧ (x = askN P k b wr ∨ (back P k b = true ∧ x = putN P k (gone P k b).1)) := by
  unfold askO at hx
  split at hx
  · rename_i hg
    refine ⟨hg, ?_⟩
    split at hx
    · rename_i hb
      simp only [List.mem_cons, List.not_mem_nil, or_false] at hx
      rcases hx with h | h
      · exact .inr ⟨hb, h⟩
      · exact .inl h
    · simp only [List.mem_cons, List.not_mem_nil, or_false] at hx
      exact .inl hx
  · simp at hx
/-- What goes out of a note. -/
theorem takeO_mem {x : Nt} (hx : x ∈ takeO P k n) : takeE P k n = 0 ∧ ((n.k = 6 ∧ x = doneN P n) ∨ (n.k ≠ 6 ∧ n.k ≠ 7 ∧ n.k ≠ 8 ∧ rfs k n = true ∧ x = refN P k n) ∨ (n.k ≠ 6 ∧ n.k ≠ 7 ∧ n.k ≠ 8 ∧ rfs k n = false ∧ x = ackN P k n)) := by
  unfold takeO at hx
  by_cases hE : takeE P k n = 0
  · refine ⟨hE, ?_⟩
    rw [if_neg (by simpa using hE)] at hx
    by_cases h6 : n.k = 6
    · rw [if_pos h6] at hx
      simp only [List.mem_cons, List.not_mem_nil, or_false] at hx
      exact .inl ⟨h6, hx⟩
    · rw [if_neg h6] at hx
      by_cases h78 : n.k = 7 ∨ n.k = 8
      · rw [if_pos h78] at hx; simp at hx
      · rw [if_neg h78] at hx
        cases hr : rfs k n
        · rw [if_neg (by simp [hr])] at hx
          simp only [List.mem_cons, List.not_mem_nil, or_false] at hx
          exact .inr (.inr ⟨h6, fun h => h78 (.inl h), fun h => h78 (.inr h), rfl, hx⟩)
        · rw [if_pos hr] at hx
          simp only [List.mem_cons, List.not_mem_nil, or_false] at hx
          exact .inr (.inl ⟨h6, fun h => h78 (.inl h), fun h => h78 (.inr h), rfl, hx⟩)
  · rw [if_pos hE] at hx; simp at hx
theorem ask_from {b : Int} {wr : Bool} {x : Nt} (hx : x ∈ askO P k b wr) : x.f = P.core ∧ x.t = -1 := by
  rcases (askO_mem hx).2 with rfl | ⟨_, rfl⟩ <;> exact ⟨rfl, rfl⟩
theorem take_from {x : Nt} (hx : x ∈ takeO P k n) : x.f = P.core ∧ x.t = -1 := by
  rcases (takeO_mem hx).2 with ⟨_, rfl⟩ | ⟨_, _, _, _, rfl⟩ | ⟨_, _, _, _, h⟩
  · exact ⟨rfl, rfl⟩
  · exact ⟨rfl, rfl⟩
  · obtain ⟨_, h1, h2, _⟩ := ack_form x h; exact ⟨h1, h2⟩
/-- A block that goes back sticks just if it is marked; an answer with data is of no block that was written. -/
theorem ask_sticks {b : Int} {wr : Bool} {x : Nt} (hx : x ∈ askO P k b wr) : (x.k = 3 → x.q = k.ms.any x.b) ∧ x.k ≠ 9 := by
  rcases (askO_mem hx).2 with rfl | ⟨_, rfl⟩
  · refine ⟨fun h => ?_, fun h => ?_⟩
    · exfalso
      have : (if wr = true then (2 : Int) else 1) = 3 := h
      split at this <;> omega
    · have : (if wr = true then (2 : Int) else 1) = 9 := h
      split at this <;> omega
  · exact ⟨fun _ => rfl, fun h => by have : (3 : Int) = 9 := h; omega⟩
theorem take_sticks (h : Pok P) (I : Inv P k) {x : Nt} (hx : x ∈ takeO P k n) : x.k ≠ 3 ∧ (x.k = 9 → x.h = true → 0 < k.d.de → k.ms.w x.b = false) := by
  obtain ⟨hE, hc⟩ := takeO_mem hx
  rcases hc with ⟨_, rfl⟩ | ⟨_, _, _, _, rfl⟩ | ⟨h6, h7, h8, hr, hx'⟩
  · exact ⟨fun h => by have : (11 : Int) = 3 := h; omega, fun h => by have : (11 : Int) = 9 := h; omega⟩
  · exact ⟨fun h => by have : (10 : Int) = 3 := h; omega, fun h => by have : (10 : Int) = 9 := h; omega⟩
  · obtain ⟨a1, a2, a3, a4, a5⟩ := ack_form x hx'
    refine ⟨by omega, fun _ _ ho => ?_⟩
    obtain ⟨hf, ht⟩ := takeE_fit hE
    obtain ⟨hk, _⟩ := fit_note h hf ht
    have hs := sT_open I ho
    have hm : met k n = false := by
      unfold rfs ref at hr
      simpa [hs] using hr
    unfold met meets at hm
    rw [a4]
    cases hw : k.ms.w n.b
    · rfl
    · exfalso
      have hany : k.ms.any n.b = true := by unfold Ms.any; simp [hw]
      rcases hk with hk | hk | hk | hk | hk
      · simp [hk, hw] at hm
      · simp [hk, hany] at hm
      · exact h6 hk
      · exact h7 hk
      · exact h8 hk

/-- f is what the core had last of each block. -/
structure Tel (P : Pm) (k : Nr) (f : Int → List Int) : Prop where
  ln : ∀ b l, line P k b = some l → f b = l.d
  bk : ∀ x ∈ k.bs, f x.b = x.d
theorem Tel.newS (P : Pm) (f : Int → List Int) : Tel P (newS P) f := by
  refine ⟨fun b l hl => ?_, fun x hx => by simp [nr.newS] at hx⟩
  unfold line at hl
  rw [show (nr.newS P).ss = kk.empty P.c from rfl, kk.fF_empty] at hl
  cases hl
variable {f : Int → List Int}
theorem Tel.askS (T : Tel P k f) (h : Pok P) (I : Inv P k) (b : Int) (wr : Bool) : Tel P (askS P k b wr) f := by
  unfold nr.askS
  split
  · cases hgo : (gone P k b).2
    · have hbk : back P k b = false := by
        cases hx : back P k b
        · rfl
        · have := (back_iff.1 hx).1; rw [hgo] at this; cases this
      simp only [Bool.false_eq_true, if_false, hbk]
      exact ⟨T.ln, T.bk⟩
    · obtain ⟨g1, g2, g3, g4, g5⟩ := gone_line I hgo
      have hfd : fF P.c (cdrop P.c k.ss (gone P k b).1.b).1 = del (fF P.c k.ss) (gone P k b).1.b := kk.fF_drop I.ch I.hs _
      simp only [if_true]
      refine ⟨fun y l hl => ?_, fun x hx => ?_⟩
      · rw [line_of, hfd] at hl
        unfold del at hl
        split at hl
        · cases hl
        · exact T.ln y l hl
      · have hx' : x ∈ (if back P k b = true then puts P.N P.m k.bs (gone P k b).1.b (gone P k b).1.d (gone P k b).1.h else k.bs) := hx
        split at hx'
        · unfold puts at hx'
          split at hx'
          · rcases List.mem_append.1 hx' with hx' | hx'
            · exact T.bk x hx'
            · simp only [List.mem_cons, List.not_mem_nil, or_false] at hx'
              subst hx'
              exact T.ln _ _ g1
          · exact T.bk x hx'
        · exact T.bk x hx'
  · exact T
theorem Tel.askO (T : Tel P k f) (I : Inv P k) {b : Int} {wr : Bool} {x : Nt} (hx : x ∈ askO P k b wr) (hh : x.h = true) : x.d = f x.b := by
  rcases (askO_mem hx).2 with rfl | ⟨hb, rfl⟩
  · cases hh
  · obtain ⟨g1, _⟩ := gone_line I (back_iff.1 hb).1
    exact (T.ln _ _ g1).symm
theorem Tel.loadS (T : Tel P k f) (I : Inv P k) (b i : Int) : Tel P (loadS P k b i) f := by
  unfold nr.loadS
  split
  · refine ⟨fun y l hl => ?_, T.bk⟩
    rw [line_of, kk.fF_use I.hs] at hl
    exact T.ln y l hl
  · exact T
theorem Tel.loadV (T : Tel P k f) (b i : Int) (hE : loadE P k b i = 0) : loadV P k b i = (f b).getD i.toNat 0 ∧ 0 ≤ i ∧ i ≤ 15 := by
  have h0 := hE
  unfold loadE at hE
  split at hE
  · cases hE
  · rename_i h1
    split at hE
    · cases hE
    · rename_i h2
      have h3 : (cfind P.c k.ss b).2 = true := by simpa using h1
      rw [cf2] at h3
      obtain ⟨l, hl⟩ := Option.isSome_iff_exists.1 h3
      refine ⟨?_, by omega, by omega⟩
      unfold nr.loadV
      rw [if_pos h0, cf1, hl, T.ln b l hl]; rfl
theorem storeE_zero {b i x : Int} (hE : storeE P k b i x = 0) : ∃ l, line P k b = some l ∧ 0 ≤ i ∧ i < 16 ∧ l.s ≠ 1 := by
  unfold storeE cwrite at hE
  have hb0 := kk.fF_row P.c k.ss b
  unfold kk.inRow at hb0
  rw [kk.find_idx] at hb0
  cases hn : (setAt P.c k.ss b).1.findIdx? (kk.isOf b) with
  | none => rw [hn] at hE; cases hE
  | some j =>
    rw [hn] at hE hb0
    simp only [Option.map_some] at hE hb0
    refine ⟨_, hb0, ?_⟩
    by_cases hi : 0 ≤ i ∧ i < 16
    · rw [if_pos hi] at hE
      by_cases hs : ((setAt P.c k.ss b).1.getD j zl).s = 1
      · rw [if_pos hs] at hE; cases hE
      · exact ⟨hi.1, hi.2, hs⟩
    · rw [if_neg hi] at hE; cases hE
theorem Tel.storeS (T : Tel P k f) (I : Inv P k) (b i x : Int) (hE : storeE P k b i x = 0) : Tel P (storeS P k b i x) (fun y => if y = b then (f b).set i.toNat x else f y) := by
  obtain ⟨l, hl, h0, h1, hs⟩ := storeE_zero hE
  obtain ⟨_, hf⟩ := kk.fF_write I.hs b i x hE
  unfold nr.storeS
  rw [if_pos hE]
  refine ⟨fun y l' hl' => ?_, fun z hz => ?_⟩
  · rw [line_of, hf] at hl'
    unfold upd at hl'
    by_cases hy : y = b
    · rw [if_pos hy] at hl'
      rw [show fF P.c k.ss b = some l from hl] at hl'
      simp only [Option.getD_some, Option.some.injEq] at hl'
      subst hl'
      show (if y = b then (f b).set i.toNat x else f y) = l.d.set i.toNat x
      rw [if_pos hy, T.ln b l hl]
    · rw [if_neg hy] at hl'
      show (if y = b then (f b).set i.toNat x else f y) = l'.d
      rw [if_neg hy]; exact T.ln y l' hl'
  · have hz' : z ∈ k.bs := hz
    have hne : z.b ≠ b := fun e => by
      have h1 := bk.look_some_of_mem I.nd hz'
      rw [e, I.ap b (by rw [hl]; rfl)] at h1
      cases h1
    show (if z.b = b then (f b).set i.toNat x else f z.b) = z.d
    rw [if_neg hne]; exact T.bk z hz'
theorem Tel.storeS_no (T : Tel P k f) (b i x : Int) (hE : storeE P k b i x ≠ 0) : Tel P (nr.storeS P k b i x) f := by
  unfold nr.storeS; rw [if_neg hE]; exact T
/-- What the core had last, behind a note. -/
def telF (P : Pm) (k : Nr) (f : Int → List Int) (n : Nt) : Int → List Int := if takeE P k n = 0 ∧ n.k = 6 then (fun y => if y = n.b then n.d else f y) else f
theorem Tel.takeS (T : Tel P k f) (h : Pok P) (I : Inv P k) : Tel P (takeS P k n) (telF P k f n) := by
  unfold nr.takeS telF
  by_cases hE : takeE P k n = 0
  · rw [if_neg (by simpa using hE)]
    by_cases h6 : n.k = 6
    · rw [if_pos h6, if_pos ⟨hE, h6⟩]
      obtain ⟨hw, hab⟩ := aw_iff.1 (takeE_data h6 hE).1
      refine ⟨fun y l hl => ?_, fun z hz => ?_⟩
      · rw [line_of, put_line h I h6 hE] at hl
        unfold upd at hl
        by_cases hy : y = n.b
        · rw [if_pos hy] at hl
          cases hl
          show (if y = n.b then n.d else f y) = n.d
          rw [if_pos hy]
        · rw [if_neg hy] at hl
          show (if y = n.b then n.d else f y) = l.d
          rw [if_neg hy]; exact T.ln y l hl
      · have hz' : z ∈ k.bs := hz
        have hne : z.b ≠ n.b := fun e => by
          have h1 := bk.look_some_of_mem I.nd hz'
          rw [e, ← hab, (I.rm hw).2] at h1
          cases h1
        show (if z.b = n.b then n.d else f z.b) = z.d
        rw [if_neg hne]; exact T.bk z hz'
    · rw [if_neg h6, if_neg (c := takeE P k n = 0 ∧ n.k = 6) (fun hx => h6 hx.2)]
      by_cases h7 : n.k = 7
      · rw [if_pos h7]; exact ⟨T.ln, T.bk⟩
      · rw [if_neg h7]
        by_cases h8 : n.k = 8
        · rw [if_pos h8]
          exact ⟨T.ln, fun z hz => T.bk z (bk.mem_rem hz)⟩
        · rw [if_neg h8]
          split
          · exact ⟨T.ln, T.bk⟩
          · refine ⟨fun y l hl => ?_, fun z hz => ?_⟩
            · rw [line_of] at hl
              split at hl
              · rw [show fF P.c (cdrop P.c k.ss n.b).1 = del (fF P.c k.ss) n.b from kk.fF_drop I.ch I.hs _] at hl
                unfold del at hl
                split at hl
                · cases hl
                · exact T.ln y l hl
              · by_cases hc : (cturn P.c k.ss n.b 1).2 = 0
                · obtain ⟨_, h2, h3⟩ := kk.fF_turn I.hs n.b 1 hc
                  rw [h3] at hl
                  unfold upd at hl
                  split at hl
                  · rename_i e
                    obtain ⟨l0, hl0⟩ := Option.isSome_iff_exists.1 h2
                    rw [hl0] at hl
                    simp only [Option.getD_some, Option.some.injEq] at hl
                    subst hl
                    rw [e]
                    show f n.b = l0.d
                    exact T.ln _ _ hl0
                  · exact T.ln y l hl
                · rw [kk.cturn_no n.b 1 hc] at hl
                  exact T.ln y l hl
            · have hz' : z ∈ (if has P k n.b = false ∧ fl (bk.look k.bs n.b) = true then kills k.bs n.b else k.bs) := hz
              split at hz'
              · have h1 := bk.look_some_of_mem (bk.nd_kills _ I.nd) hz'
                rw [bk.look_kills _ _ I.nd] at h1
                split at h1
                · rename_i e
                  cases hx : bk.look k.bs n.b with
                  | none => rw [hx] at h1; cases h1
                  | some x0 =>
                    rw [hx] at h1
                    simp only [Option.map_some, Option.some.injEq] at h1
                    subst h1
                    exact T.bk x0 (bk.look_mem hx)
                · exact T.bk z (bk.look_mem h1)
              · exact T.bk z hz'
  · rw [if_pos hE, if_neg (fun hx => hE hx.1)]; exact T
theorem Tel.takeO (T : Tel P k f) (I : Inv P k) {x : Nt} (hx : x ∈ takeO P k n) (hh : x.h = true) : x.d = telF P k f n x.b := by
  obtain ⟨hE, hc⟩ := takeO_mem hx
  rcases hc with ⟨_, rfl⟩ | ⟨_, _, _, _, rfl⟩ | ⟨h6, h7, h8, hr, hx'⟩
  · cases hh
  · cases hh
  · obtain ⟨_, _, _, hb, _⟩ := ack_form x hx'
    unfold telF
    rw [if_neg (fun hy => h6 hy.2), hb]
    subst hx'
    unfold ackN at hh ⊢
    cases hhas : has P k n.b
    · rw [hhas] at hh
      rw [if_neg (by simp)] at hh ⊢
      cases hl : bk.look k.bs n.b with
      | none => rw [hl] at hh; cases hh
      | some x0 =>
        rw [hl] at hh
        simp only [] at hh ⊢
        cases hlv : x0.l
        · rw [hlv] at hh
          rw [if_neg (by simp)] at hh
          cases hh
        · rw [if_pos rfl]
          have h1 := T.bk x0 (bk.look_mem hl)
          rw [bk.look_b hl] at h1
          exact h1.symm
    · rw [if_pos rfl]
      unfold has at hhas
      have h1 : (cfind P.c k.ss n.b).2 = true := by simp at hhas; exact hhas.1
      have h2 := h1
      rw [cf2] at h2
      obtain ⟨l, hl⟩ := Option.isSome_iff_exists.1 h2
      show (cfind P.c k.ss n.b).1.d = f n.b
      rw [cf1, hl, T.ln n.b l hl]; rfl
end
end Go.Proofs.YtinogiidiommkaaGreatDoor.nr
