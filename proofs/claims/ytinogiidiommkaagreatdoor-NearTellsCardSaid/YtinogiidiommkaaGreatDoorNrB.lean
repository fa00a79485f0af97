/-
  What holds of a near is kept by Ask, Load, Store, Take, by its deal's calls, by Clear. No condition but what each theorem names.
-/
import Derived.Test.YtinogiidiommkaaGreatDoorNrA
namespace Go.Proofs.YtinogiidiommkaaGreatDoor.nr
open Go
open Go.Proofs.YtinogiidiommkaaGreatDoor.tt (Cfg Nt bare zd fits)
open Go.Proofs.YtinogiidiommkaaGreatDoor.kk (Ln St zl cfind cdrop cuse cgoes cwrite cturn cput setAt setOf live fF upd del Shp)
open Go.Proofs.YtinogiidiommkaaGreatDoor.bk (Bk rem kills puts putE fd fl Nd Rg dead fresh)
open Go.Proofs.YtinogiidiommkaaGreatDoor.mrk (Ms rdS wrS meets addE Dom)
open Go.Proofs.YtinogiidiommkaaGreatDoor.de (Dl sT gE rF aD)
open Go.Proofs.YtinogiidiommkaaGreatDoor.oo (ref)
set_option linter.unusedVariables false

section
variable {P : Pm} {k : Nr}
theorem Inv.hs (I : Inv P k) : ∀ b, k.ss[setOf P.c b]? = some (setAt P.c k.ss b) := I.shp.at_
/-- What would have to go is a line that is there, of another block. -/
theorem gone_line (I : Inv P k) {b : Int} (hg : (gone P k b).2 = true) : line P k (gone P k b).1.b = some (gone P k b).1 ∧ (gone P k b).1.b ≠ b ∧ 0 ≤ b ∧ b < 256 ∧ line P k b = none := by
  have hv := I.shp.vc_lt b
  obtain ⟨h1, h2⟩ := kk.goes_set I.ch I.hs b hv hg
  have hb : 0 ≤ b ∧ b < 256 := by
    by_cases h : 0 ≤ b ∧ b < 256
    · exact h
    · have := kk.goes_out b (c := P.c) (ss := k.ss) h
      unfold gone at hg; rw [this] at hg; cases hg
  have hroom : ¬ ∃ l ∈ (setAt P.c k.ss b).1, live l = false ∨ l.b = b := fun hx => by
    have := (kk.room_iff hb).2 hx
    unfold gone at hg; rw [this] at hg; cases hg
  have hall : ∀ l ∈ (setAt P.c k.ss b).1, live l = true ∧ l.b ≠ b := fun l hl => by
    refine ⟨?_, fun e => hroom ⟨l, hl, .inr e⟩⟩
    cases h : live l
    · exact absurd ⟨l, hl, .inl h⟩ hroom
    · rfl
  have hvm : (gone P k b).1 ∈ (setAt P.c k.ss b).1 := by
    unfold gone cgoes
    rw [if_pos hb]
    unfold gone cgoes at hg
    rw [if_pos hb] at hg
    cases hw : kk.wayFor (setAt P.c k.ss b).1 b with
    | some i => rw [hw] at hg; cases hg
    | none =>
      show (setAt P.c k.ss b).1.getD _ zl ∈ _
      rw [List.getD_eq_getElem?_getD, List.getElem?_eq_getElem hv]
      exact List.getElem_mem hv
  obtain ⟨hl, hne⟩ := hall _ hvm
  have hset : setAt P.c k.ss (gone P k b).1.b = setAt P.c k.ss b := by
    unfold setAt
    rw [show setOf P.c (gone P k b).1.b = setOf P.c b from h1]
  refine ⟨?_, hne, hb.1, hb.2, ?_⟩
  · unfold line
    rw [kk.fF_row, hset]
    unfold kk.inRow
    obtain ⟨j, hj⟩ := List.getElem?_of_mem hvm
    cases hf : (setAt P.c k.ss b).1.find? (kk.isOf (gone P k b).1.b) with
    | none =>
      have := List.find?_eq_none.1 hf _ hvm
      exact absurd (kk.isOf_iff.2 ⟨hl, rfl⟩) (by simpa using this)
    | some l =>
      have hi := kk.isOf_iff.1 (List.find?_some hf)
      obtain ⟨i, hi'⟩ := List.getElem?_of_mem (List.mem_of_find?_eq_some hf)
      have := I.ch.one _ _ (I.hs b) i j l _ hi' hj hi.1 hl hi.2
      subst this
      rw [hi'] at hj; cases hj; rfl
  · unfold line
    rw [kk.fF_row]
    unfold kk.inRow
    exact List.find?_eq_none.2 fun l hl2 => by
      intro h
      exact (hall l hl2).2 (kk.isOf_iff.1 h).2
theorem room_back (I : Inv P k) {b : Int} (hg : (gone P k b).2 = true) : (cgoes P.c (cdrop P.c k.ss (gone P k b).1.b).1 b).2 = false := by
  obtain ⟨_, _, h0, h1, _⟩ := gone_line I hg
  have h2 := kk.drop_room I.ch I.hs b (I.shp.vc_lt b) ⟨h0, h1⟩ hg
  rw [kk.put_code b ⟨h0, h1⟩] at h2
  cases h : (cgoes P.c (cdrop P.c k.ss (gone P k b).1.b).1 b).2
  · rfl
  · rw [show cgoes P.c (cdrop P.c k.ss (cgoes P.c k.ss b).1.b).1 b = cgoes P.c (cdrop P.c k.ss (gone P k b).1.b).1 b from rfl, h] at h2; cases h2
/-- Of another cache: what it finds. -/
theorem line_of {ss : List St} {bs : List Bk} {ms : Ms} {d : Dl} {a : Nt} {t : Bool} (b : Int) : line P ⟨ss, bs, ms, d, a, t⟩ b = fF P.c ss b := rfl
theorem goesOut_iff {b : Int} {wr : Bool} : goesOut P k b wr = true ↔ (0 ≤ b ∧ b < (P.N : Int)) ∧ k.wt = false ∧ rdy P k b wr = false ∧ bk.look k.bs b = none ∧ ¬ (back P k b = true ∧ k.bs.length = P.m) := by
  unfold goesOut askE
  by_cases h1 : b < 0 ∨ (P.N : Int) ≤ b
  · rw [if_pos h1]; simp; omega
  · rw [if_neg h1]
    cases h2 : k.wt
    · cases h3 : rdy P k b wr
      · cases h4 : bk.look k.bs b with
        | some x => simp
        | none =>
          by_cases h5 : back P k b = true ∧ k.bs.length = P.m
          · simp [h5.1, h5.2]
          · have : ¬ (b < 0) ∧ ¬ (P.N : Int) ≤ b := by omega
            simp [h5]; omega
      · simp
    · simp
theorem back_iff {b : Int} : back P k b = true ↔ (gone P k b).2 = true ∧ (gone P k b).1.s ≠ 1 := by unfold back; simp
theorem Inv.askS (h : Pok P) (I : Inv P k) (b : Int) (wr : Bool) : Inv P (askS P k b wr) := by
  unfold nr.askS
  cases hg : goesOut P k b wr
  · exact I
  · rw [if_pos rfl]
    obtain ⟨⟨b0, b1⟩, hw, hr, hl, hb⟩ := goesOut_iff.1 hg
    have hN := h.small
    have hk : (askN P k b wr).b = b := rfl
    cases hgo : (gone P k b).2
    · have hbk : back P k b = false := by
        cases hx : back P k b
        · rfl
        · have := (back_iff.1 hx).1; rw [hgo] at this; cases this
      simp only [Bool.false_eq_true, if_false, hbk]
      refine ⟨I.shp, I.ch, I.dat, I.nd, I.rg, I.bl, I.dom, I.dl, fun _ => ⟨by rw [hk]; exact ⟨b0, b1⟩, ?_⟩, fun _ => ⟨by rw [hk]; exact hgo, by rw [hk]; exact hl⟩, I.ap⟩
      show (if wr = true then (2 : Int) else 1) = 1 ∨ (if wr = true then (2 : Int) else 1) = 2
      cases wr <;> simp
    · obtain ⟨g1, g2, g3, g4, g5⟩ := gone_line I hgo
      have hlv : bk.look k.bs (gone P k b).1.b = none := I.ap _ (by rw [g1]; rfl)
      have hdv := I.dat _ (show (line P k (gone P k b).1.b).isSome = true by rw [g1]; rfl)
      have hfd : fF P.c (cdrop P.c k.ss (gone P k b).1.b).1 = del (fF P.c k.ss) (gone P k b).1.b := kk.fF_drop I.ch I.hs _
      have hlook : ∀ y, y ≠ (gone P k b).1.b → bk.look (if back P k b = true then puts P.N P.m k.bs (gone P k b).1.b (gone P k b).1.d (gone P k b).1.h else k.bs) y = bk.look k.bs y := fun y hy => by
        split
        · rw [bk.look_puts]
          rw [if_neg (fun e => hy e.2)]
        · rfl
      simp only [if_true]
      refine ⟨I.shp.cdrop _, I.ch.cdrop I.hs _, fun y hy => ?_, ?_, ?_, ?_, I.dom, I.dl, fun _ => ⟨by rw [hk]; exact ⟨b0, b1⟩, ?_⟩, fun _ => ⟨by rw [hk]; exact room_back I hgo, ?_⟩, fun y hy => ?_⟩
      · rw [line_of, hfd] at hy
        unfold del at hy
        split at hy
        · cases hy
        · exact I.dat y hy
      · split
        · exact bk.nd_puts _ _ _ _ _ I.nd
        · exact I.nd
      · split
        · exact bk.rg_puts _ _ _ I.rg
        · exact I.rg
      · split
        · rename_i hbk
          have hlen : k.bs.length ≠ P.m := fun e => hb ⟨hbk, e⟩
          have := I.bl
          unfold puts
          split
          · rw [List.length_append]; simp; omega
          · exact I.bl
        · exact I.bl
      · show (if wr = true then (2 : Int) else 1) = 1 ∨ (if wr = true then (2 : Int) else 1) = 2
        cases wr <;> simp
      · rw [hk]
        show bk.look _ b = none
        rw [hlook b (fun e => g2 e.symm)]; exact hl
      · rw [line_of, hfd] at hy
        unfold del at hy
        split at hy
        · cases hy
        · rename_i hne
          show bk.look _ y = none
          rw [hlook y hne]; exact I.ap y hy
theorem dom_rdS {N : Nat} {s : Ms} (b : Int) (h : Dom (N : Int) s) : Dom (N : Int) (rdS N s b) := by
  unfold rdS
  split
  · rename_i h0
    unfold addE at h0
    split at h0
    · cases h0
    · exact mrk.dom_rd h (by omega)
  · exact h
theorem dom_wrS {N : Nat} {s : Ms} (b : Int) (h : Dom (N : Int) s) : Dom (N : Int) (wrS N s b) := by
  unfold wrS
  split
  · rename_i h0
    unfold addE at h0
    split at h0
    · cases h0
    · exact mrk.dom_wr h (by omega)
  · exact h
/-- Another cache that finds the same blocks, and leaves room where there was; other marks. -/
theorem Inv.cache (I : Inv P k) (hN : P.N ≤ 256) {ss : List St} {ms : Ms} (h1 : Shp P.c ss) (h2 : kk.Inv P.c ss) (h3 : ∀ b, (fF P.c ss b).isSome = true → (line P k b).isSome = true) (h4 : ∀ b, 0 ≤ b ∧ b < 256 → (cgoes P.c k.ss b).2 = false → (cgoes P.c ss b).2 = false) (hm : Dom (P.N : Int) ms) : Inv P { k with ss := ss, ms := ms } :=
  ⟨h1, h2, fun b hb => I.dat b (h3 b hb), I.nd, I.rg, I.bl, hm, I.dl, I.ak, fun hw => ⟨h4 _ (by have := (I.ak hw).1; show 0 ≤ k.ask.b ∧ k.ask.b < 256; omega) (I.rm hw).1, (I.rm hw).2⟩, fun b hb => I.ap b (h3 b hb)⟩
theorem Inv.loadS (h : Pok P) (I : Inv P k) (b i : Int) : Inv P (loadS P k b i) := by
  unfold nr.loadS
  split
  · refine I.cache h.small (I.shp.cuse b) (I.ch.cuse I.hs b) (fun y hy => ?_) (fun y hy hr => kk.room_use I.hs hy b hr) ?_
    · rw [kk.fF_use I.hs] at hy; exact hy
    · split
      · exact dom_rdS _ I.dom
      · exact I.dom
  · exact I
theorem Inv.storeS (h : Pok P) (I : Inv P k) (b i x : Int) : Inv P (storeS P k b i x) := by
  unfold nr.storeS
  split
  · rename_i h0
    obtain ⟨hi, hf⟩ := kk.fF_write I.hs b i x h0
    have hb : (line P k b).isSome = true := by
      have hn : (cfind P.c k.ss b).2 = true := by
        unfold storeE cwrite at h0
        unfold cfind
        cases hn : (setAt P.c k.ss b).1.findIdx? (kk.isOf b) with
        | none => rw [hn] at h0; cases h0
        | some i => rfl
      rw [← cf2]; exact hn
    refine I.cache h.small (I.shp.cwrite b i x) (I.ch.cwrite I.hs b i x) (fun y hy => ?_) (fun y hy hr => kk.room_write I.hs hy b i x hr) ?_
    · rw [hf] at hy
      unfold upd at hy
      split at hy
      · rename_i e; rw [e]; exact hb
      · exact hy
    · split
      · exact dom_wrS _ I.dom
      · exact I.dom
  · exact I
theorem Inv.clrS (I : Inv P k) : Inv P (clrS k) := ⟨I.shp, I.ch, I.dat, I.nd, I.rg, I.bl, mrk.dom_zero _, I.dl, I.ak, I.rm, I.ap⟩
theorem Inv.deal (I : Inv P k) {d : Dl} (hd : de.Inv d) : Inv P { k with d := d } := ⟨I.shp, I.ch, I.dat, I.nd, I.rg, I.bl, I.dom, hd, I.ak, I.rm, I.ap⟩
theorem Inv.newS (h : Pok P) : Inv P (newS P) := by
  have hse := h.may.sets
  have hwa := h.may.ways
  have hne : 1 ≤ P.c.ne ∧ P.c.ne ≤ 8 := tt.hb_bounds (h.may.1 6 (by omega))
  have hF := kk.fF_empty P.c
  refine ⟨⟨h.may, ?_, ?_⟩, kk.Inv.empty _, fun b hb => ?_, bk.nd_nil, fun x hx => by simp [nr.newS] at hx, Nat.zero_le _, mrk.dom_zero _, de.Inv.nw hne.1 hne.2, fun hx => by simp [nr.newS] at hx, fun hx => by simp [nr.newS] at hx, fun b hb => rfl⟩
  · show ((kk.empty P.c).length : Int) = P.c.se
    unfold kk.empty; simp; omega
  · intro p hp
    have hp' : p ∈ kk.empty P.c := hp
    unfold kk.empty at hp'
    obtain rfl := (List.mem_replicate.1 hp').2
    simp; omega
  · have : line P (nr.newS P) b = none := by unfold line; rw [show (nr.newS P).ss = kk.empty P.c from rfl, hF]
    rw [this] at hb; cases hb
end
end Go.Proofs.YtinogiidiommkaaGreatDoor.nr
