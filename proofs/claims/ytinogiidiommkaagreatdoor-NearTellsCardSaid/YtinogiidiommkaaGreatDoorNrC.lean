/-
  What holds of a near is kept by Take; what goes out; what it waits for; that what a transaction wrote is kept; that data which goes out is what the core had last: plain data. No condition but what each theorem names.
-/
import Derived.Test.YtinogiidiommkaaGreatDoorNrB
namespace Go.Proofs.YtinogiidiommkaaGreatDoor.nr
open Go
open Go.Proofs.YtinogiidiommkaaGreatDoor.tt (Cfg Nt bare zd fits)
open Go.Proofs.YtinogiidiommkaaGreatDoor.kk (Ln St zl cfind cdrop cuse cgoes cwrite cturn cput setAt setOf live fF upd del Shp)
open Go.Proofs.YtinogiidiommkaaGreatDoor.bk (Bk rem kills puts putE fd fl Nd Rg dead fresh)
open Go.Proofs.YtinogiidiommkaaGreatDoor.mrk (Ms rdS wrS meets addE Dom)
open Go.Proofs.YtinogiidiommkaaGreatDoor.de (Dl sT gE rF aD)
open Go.Proofs.YtinogiidiommkaaGreatDoor.oo (ref)
set_option linter.unusedVariables false

section
variable {P : Pm} {k : Nr} {n : Nt}
/-- A note that may be taken is of the home's five kinds, about a data block. -/
theorem fit_note (h : Pok P) (hf : fits P.c n) (ht : n.t = P.core) : (n.k = 4 ∨ n.k = 5 ∨ n.k = 6 ∨ n.k = 7 ∨ n.k = 8) ∧ (0 ≤ n.b ∧ n.b < (P.N : Int)) ∧ n.f = -1 ∧ (n.k = 6 → 1 ≤ n.s ∧ n.s ≤ 3) ∧ (n.k = 6 → n.h = true) := by
  obtain ⟨ho, hc, hb⟩ := hf
  have hr := (tt.rule_ok n ho.1 ho.2.1).1 ho
  have h0 := h.c0
  have hd := h.data
  have hT : tt.tH n.k = false := by
    cases hx : tt.tH n.k
    · rfl
    · have := hr.at_
      rw [hx] at this
      simp at this
      omega
  have hk : n.k = 4 ∨ n.k = 5 ∨ n.k = 6 ∨ n.k = 7 ∨ n.k = 8 := by
    unfold tt.tH at hT
    have := ho.1
    simp at hT
    omega
  have ha := hr.at_
  rw [hT] at ha
  exact ⟨hk, ⟨ho.2.1.1, by omega⟩, by simpa using ha, hr.s6, fun e => hr.h36 (.inr e)⟩
theorem takeE_fit (hE : takeE P k n = 0) : fits P.c n ∧ n.t = P.core := by
  unfold takeE at hE
  split at hE
  · cases hE
  · rename_i h; exact Decidable.not_not.1 h
theorem takeE_data (hk : n.k = 6) (hE : takeE P k n = 0) : aw k n = true ∧ fitsAsk k n = true := by
  have hf := takeE_fit hE
  unfold takeE at hE
  rw [if_neg (fun h => h hf), if_pos hk] at hE
  by_cases h : aw k n = true ∧ fitsAsk k n = true
  · exact h
  · rw [if_neg h] at hE; cases hE
theorem takeE_nack (hk : n.k = 7) (hE : takeE P k n = 0) : aw k n = true := by
  have hf := takeE_fit hE
  unfold takeE at hE
  rw [if_neg (fun h => h hf), if_neg (by omega), if_pos hk] at hE
  by_cases h : aw k n = true
  · exact h
  · rw [if_neg h] at hE; cases hE
theorem aw_iff : aw k n = true ↔ k.wt = true ∧ k.ask.b = n.b := by unfold aw; simp
theorem lineOf_may (h : Pok P) (hk : n.k = 6) (hE : takeE P k n = 0) : (lineOf n).may := by
  obtain ⟨hf, ht⟩ := takeE_fit hE
  obtain ⟨_, hb, _, hs, _⟩ := fit_note h hf ht
  have := h.small
  exact ⟨⟨hb.1, by show n.b < 256; omega⟩, (hs hk).1, (hs hk).2⟩
/-- The line that was asked for may be put. -/
theorem put_ok (h : Pok P) (I : Inv P k) (hk : n.k = 6) (hE : takeE P k n = 0) : (cput P.c k.ss (lineOf n)).2 = 0 := by
  obtain ⟨hw, hb⟩ := aw_iff.1 (takeE_data hk hE).1
  refine kk.cput_room _ (lineOf_may h hk hE) ?_
  have := (I.rm hw).1
  rw [hb] at this
  exact this
theorem put_line (h : Pok P) (I : Inv P k) (hk : n.k = 6) (hE : takeE P k n = 0) : fF P.c (cput P.c k.ss (lineOf n)).1 = upd (fF P.c k.ss) n.b (lineOf n) := kk.fF_put I.hs (lineOf n) (put_ok h I hk hE)
theorem look_rem' {bs : List Bk} {b y : Int} (h : Nd bs) (hy : bk.look bs y = none) : bk.look (rem bs b) y = none := by
  rw [bk.look_rem b y h]; split
  · rfl
  · exact hy
theorem look_kills' {bs : List Bk} {b y : Int} (h : Nd bs) (hy : bk.look bs y = none) : bk.look (kills bs b) y = none := by
  rw [bk.look_kills b y h]; split
  · rename_i e; subst e; rw [hy]; rfl
  · exact hy
theorem turn_lines (I : Inv P k) (b y : Int) : (fF P.c (cturn P.c k.ss b 1).1 y).isSome = (line P k y).isSome := by
  by_cases hc : (cturn P.c k.ss b 1).2 = 0
  · obtain ⟨_, h2, h3⟩ := kk.fF_turn I.hs b 1 hc
    rw [h3]
    unfold upd
    split
    · rename_i e; subst e; exact h2.symm
    · rfl
  · rw [kk.cturn_no b 1 hc]; rfl
theorem Inv.takeS (h : Pok P) (I : Inv P k) : Inv P (takeS P k n) := by
  unfold nr.takeS
  by_cases hE : takeE P k n = 0
  · rw [if_neg (by simpa using hE)]
    obtain ⟨hf, ht⟩ := takeE_fit hE
    obtain ⟨hks, hb, _, _, _⟩ := fit_note h hf ht
    have hN := h.small
    by_cases h6 : n.k = 6
    · rw [if_pos h6]
      obtain ⟨hw, hab⟩ := aw_iff.1 (takeE_data h6 hE).1
      have hp := put_line h I h6 hE
      refine ⟨I.shp.cput _, I.ch.cput I.hs _, fun y hy => ?_, I.nd, I.rg, I.bl, I.dom, I.dl, fun hx => (by cases hx), fun hx => (by cases hx), fun y hy => ?_⟩
      · rw [line_of, hp] at hy
        unfold upd at hy
        split at hy
        · rename_i e; rw [e]; exact hb
        · exact I.dat y hy
      · rw [line_of, hp] at hy
        unfold upd at hy
        split at hy
        · rename_i e
          show bk.look k.bs y = none
          rw [e, ← hab]; exact (I.rm hw).2
        · exact I.ap y hy
    · rw [if_neg h6]
      by_cases h7 : n.k = 7
      · rw [if_pos h7]
        exact ⟨I.shp, I.ch, I.dat, I.nd, I.rg, I.bl, I.dom, I.dl, fun hx => (by cases hx), fun hx => (by cases hx), I.ap⟩
      · rw [if_neg h7]
        by_cases h8 : n.k = 8
        · rw [if_pos h8]
          refine ⟨I.shp, I.ch, I.dat, bk.nd_rem _ I.nd, bk.rg_rem _ I.rg, Nat.le_trans (bk.rem_le _ _) I.bl, I.dom, I.dl, I.ak, fun hw => ⟨(I.rm hw).1, look_rem' I.nd (I.rm hw).2⟩, fun y hy => look_rem' I.nd (I.ap y hy)⟩
        · rw [if_neg h8]
          have hda : de.Inv (aD k.d (met k n) n.st) := I.dl.aD _ _
          split
          · exact I.deal hda
          · have hbs : ∀ y, bk.look k.bs y = none → bk.look (if has P k n.b = false ∧ fl (bk.look k.bs n.b) = true then kills k.bs n.b else k.bs) y = none := fun y hy => by
              split
              · exact look_kills' I.nd hy
              · exact hy
            have hln : ∀ y, (fF P.c (if n.k = 5 then (cdrop P.c k.ss n.b).1 else (cturn P.c k.ss n.b 1).1) y).isSome = true → (line P k y).isSome = true := fun y hy => by
              split at hy
              · rw [show fF P.c (cdrop P.c k.ss n.b).1 = del (fF P.c k.ss) n.b from kk.fF_drop I.ch I.hs _] at hy
                unfold del at hy
                split at hy
                · cases hy
                · exact hy
              · rw [turn_lines I] at hy; exact hy
            refine ⟨?_, ?_, fun y hy => I.dat y (hln y hy), ?_, ?_, ?_, I.dom, hda, I.ak, fun hw => ⟨?_, hbs _ (I.rm hw).2⟩, fun y hy => hbs _ (I.ap y (hln y hy))⟩
            · show Shp P.c (if n.k = 5 then _ else _)
              split
              · exact I.shp.cdrop _
              · exact I.shp.cturn _ _
            · show kk.Inv P.c (if n.k = 5 then _ else _)
              split
              · exact I.ch.cdrop I.hs _
              · exact I.ch.cturn I.hs _ _
            · show Nd (if _ then _ else _)
              split
              · exact bk.nd_kills _ I.nd
              · exact I.nd
            · show Rg _ (if _ then _ else _)
              split
              · exact bk.rg_kills _ I.rg
              · exact I.rg
            · show (if _ then _ else _ : List Bk).length ≤ _
              split
              · rw [bk.kills_len]; exact I.bl
              · exact I.bl
            · have hak : 0 ≤ k.ask.b ∧ k.ask.b < 256 := by have := (I.ak hw).1; omega
              show (cgoes P.c (if n.k = 5 then (cdrop P.c k.ss n.b).1 else (cturn P.c k.ss n.b 1).1) k.ask.b).2 = false
              split
              · exact kk.room_drop I.hs hak _ (I.rm hw).1
              · exact kk.room_turn I.hs hak _ _ (I.rm hw).1
  · rw [if_pos hE]; exact I
/-- Behind an ask: what it answers, what goes out, what it waits for. -/
theorem ask_cases (b : Int) (wr : Bool) : (askE P k b wr ≠ 0 ∧ askO P k b wr = [] ∧ askS P k b wr = k ∧ askR P k b wr = false) ∨ (askE P k b wr = 0 ∧ askR P k b wr = true ∧ askO P k b wr = [] ∧ askS P k b wr = k ∧ k.wt = false) ∨ (askE P k b wr = 0 ∧ askR P k b wr = false ∧ goesOut P k b wr = true ∧ k.wt = false) := by
  by_cases hE : askE P k b wr = 0
  · have hw : k.wt = false := by
      cases hx : k.wt
      · rfl
      · unfold askE at hE
        rw [hx] at hE
        split at hE
        · cases hE
        · simp at hE
    cases hr : rdy P k b wr
    · exact .inr (.inr ⟨hE, by simp [askR, hr], by simp [goesOut, hE, hr], hw⟩)
    · exact .inr (.inl ⟨hE, by simp [askR, hE, hr], by simp [askO, goesOut, hr], by simp [askS, goesOut, hr], hw⟩)
  · exact .inl ⟨hE, by simp [askO, goesOut, hE], by simp [askS, goesOut, hE], by simp [askR, hE]⟩
theorem ask_waits {b : Int} {wr : Bool} (hg : goesOut P k b wr = true) : (askS P k b wr).wt = true ∧ (askS P k b wr).ask = askN P k b wr := by
  unfold askS; rw [if_pos hg]; exact ⟨rfl, rfl⟩
/-- Behind a note: what it waits for. -/
theorem take_waits (n : Nt) : ((takeS P k n).wt = k.wt ∧ (takeS P k n).ask = k.ask) ∨ (k.wt = true ∧ (takeS P k n).wt = false ∧ (takeS P k n).ask = k.ask ∧ takeE P k n = 0 ∧ (n.k = 6 ∨ n.k = 7) ∧ n.b = k.ask.b) := by
  unfold takeS
  by_cases hE : takeE P k n = 0
  · rw [if_neg (by simpa using hE)]
    by_cases h6 : n.k = 6
    · rw [if_pos h6]
      obtain ⟨hw, hb⟩ := aw_iff.1 (takeE_data h6 hE).1
      exact .inr ⟨hw, rfl, rfl, hE, .inl h6, hb.symm⟩
    · rw [if_neg h6]
      by_cases h7 : n.k = 7
      · rw [if_pos h7]
        obtain ⟨hw, hb⟩ := aw_iff.1 (takeE_nack h7 hE)
        exact .inr ⟨hw, rfl, rfl, hE, .inr h7, hb.symm⟩
      · rw [if_neg h7]
        by_cases h8 : n.k = 8
        · rw [if_pos h8]; exact .inl ⟨rfl, rfl⟩
        · rw [if_neg h8]
          split
          · exact .inl ⟨rfl, rfl⟩
          · exact .inl ⟨rfl, rfl⟩
  · rw [if_pos hE]; exact .inl ⟨rfl, rfl⟩
end
end Go.Proofs.YtinogiidiommkaaGreatDoor.nr
