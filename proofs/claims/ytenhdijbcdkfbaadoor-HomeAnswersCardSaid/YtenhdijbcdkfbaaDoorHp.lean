/-
  A home, and cores that answer at once, in some order, as plain data: each ask that is taken is answered, once. No condition.
  A home, and cores that answer at once: what an ask that begins makes of both, and the asks that waited. No condition.
  A home, and cores that answer at once: each ask that is taken is answered, once; how many notes may still come. No condition.
-/
import Derived.Test.YtenhdijbcdkfbaaDoorHq
namespace Go.Proofs.YtenhdijbcdkfbaaDoor.hh
open Go
open Go.Proofs.YtenhdijbcdkfbaaDoor.tt (Nt Cfg fits net bare zd usd uses coreOf ok_ends tH sT rule_ok)
open Go.Proofs.YtenhdijbcdkfbaaDoor.en (En gets back asked asks free ask_parts may_parts wo_bit wi_bit ones_mem bit_lt asks_lt)
open Go.Proofs.YtenhdijbcdkfbaaDoor.mm (wi wo ones wo_lt wi_lt wi_out)
set_option linter.unusedVariables false

/-- What comes back of a note that goes out. -/
def resp (rf : Bool) (n : Nt) : List Nt :=
  if n.k = 4 ∨ n.k = 5 then [if rf then bare 10 n.t (-1) n.b (n.t + 1) 0 false false else bare 9 n.t (-1) n.b 0 0 false false]
  else if n.k = 6 then [bare 11 n.t (-1) n.b 0 0 false false] else []
/-- Does it answer x's ask about b? -/
def cameB (x b : Int) (n : Nt) : Bool := decide (¬ (n.k = 4 ∨ n.k = 5)) && (decide (n.t = x) && decide (n.b = b))
def came (out : List Nt) (x b : Int) : Int := (out.countP (cameB x b) : Nat)
def ways (rf : Bool) (out : List Nt) : List Nt := out.flatMap (resp rf)
theorem came_nil (x b : Int) : came [] x b = 0 := rfl
theorem came_append (l m : List Nt) (x b : Int) : came (l ++ m) x b = came l x b + came m x b := by unfold came; rw [List.countP_append]; omega
theorem came_cons (n : Nt) (l : List Nt) (x b : Int) : came (n :: l) x b = (if cameB x b n then 1 else 0) + came l x b := by
  unfold came; rw [List.countP_cons]; split <;> omega
theorem ways_append (rf : Bool) (l m : List Nt) : ways rf (l ++ m) = ways rf l ++ ways rf m := List.flatMap_append

/-- The notes about a block. -/
def wb (way : List Nt) (b : Nat) : List Nt := way.filter (fun n => decide (n.b = (b : Int)))
theorem wb_append (l m : List Nt) (b : Nat) : wb (l ++ m) b = wb l b ++ wb m b := List.filter_append ..
theorem wb_all {l : List Nt} {b : Nat} (h : ∀ n ∈ l, n.b = (b : Int)) : wb l b = l := List.filter_eq_self.2 fun n hn => decide_eq_true (h n hn)
theorem wb_none {l : List Nt} {b b' : Nat} (h : ∀ n ∈ l, n.b = (b : Int)) (hne : b' ≠ b) : wb l b' = [] := List.filter_eq_nil_iff.2 fun n hn => by
  rw [h n hn]; simp; omega
/-- What is on its way about a block fits what is under way. -/
def Mt (o : Option Jb) (l : List Nt) : Prop :=
  match o with
  | none => l = []
  | some j => (j.d = true → ∃ n, l = [n] ∧ n.k = 11 ∧ n.f = j.a.f) ∧ (j.d = false → j.w ≠ 0 ∧ (∀ n ∈ l, n.k = 9 ∨ n.k = 10) ∧ (l.map (·.f)).Perm ((ones j.w).map fun (x : Nat) => (x : Int)))
theorem Mt.perm {o : Option Jb} {l m : List Nt} (h : Mt o l) (p : l.Perm m) : Mt o m := by
  cases o with
  | none => have h' : l = [] := h; subst h'; exact p.symm.eq_nil
  | some j =>
    obtain ⟨h1, h2⟩ := h
    refine ⟨fun hd => ?_, fun hd => ?_⟩
    · obtain ⟨n, rfl, hk, hf⟩ := h1 hd
      exact ⟨n, (List.perm_singleton.1 p.symm), hk, hf⟩
    · obtain ⟨a, b, c⟩ := h2 hd
      exact ⟨a, fun n hn => b n (p.mem_iff.2 hn), (p.symm.map _).trans c⟩
/-- A note on its way to the home. -/
structure WayOk (c : Cfg) (n : Nt) : Prop where
  fits : fits c n
  to : n.t = -1
  word : Word n
/-- Entries know cores of the plan alone. -/
def Kn (c : Cfg) (H : Hm) : Prop := ∀ e ∈ H.en, ∀ i : Nat, (wi e.s e.o).testBit i = true → (i : Int) < c.co
/-- What holds of a home and of what is on its way. -/
structure W (c : Cfg) (H : Hm) (way : List Nt) : Prop where
  inv : Inv c H
  kn : Kn c H
  ok : ∀ n ∈ way, WayOk c n
  blk : ∀ b : Nat, Mt (jbOf H b) (wb way b)

/-- Is x's ask about b under way, and not answered? -/
def jobD (H : Hm) (x b : Int) : Int := if 0 ≤ b then (match jbOf H b.toNat with | none => 0 | some j => if j.d = false ∧ j.a.f = x then 1 else 0) else 0
def waitB (x b : Int) (n : Nt) : Bool := decide (n.f = x) && decide (n.b = b)
def waits (l : List Nt) (x b : Int) : Int := (l.countP (waitB x b) : Nat)
theorem waits_append (l m : List Nt) (x b : Int) : waits (l ++ m) x b = waits l x b + waits m x b := by unfold waits; rw [List.countP_append]; omega
theorem waits_cons (n : Nt) (l : List Nt) (x b : Int) : waits (n :: l) x b = (if waitB x b n then 1 else 0) + waits l x b := by
  unfold waits; rw [List.countP_cons]; split <;> omega
/-- How many notes may still come about it. -/
def phi (o : Option Jb) : Nat := match o with | none => 0 | some j => if j.d then 1 else (ones j.w).length + 1
def Phi (H : Hm) : Nat := (H.jb.map phi).sum
theorem sum_set (l : List (Option Jb)) (b : Nat) (o : Option Jb) (h : b < l.length) : ((l.set b o).map phi).sum + phi (l.getD b none) = (l.map phi).sum + phi o := by
  induction l generalizing b with
  | nil => simp at h
  | cons x l ih =>
    cases b with
    | zero => simp; omega
    | succ b =>
      have := ih b (by simpa using h)
      simp at this ⊢
      omega
theorem Phi_set {H : Hm} {b : Nat} (o : Option Jb) (h : b < H.jb.length) (H' : Hm) (e : H'.jb = H.jb.set b o) : Phi H' + phi (jbOf H b) = Phi H + phi o := by
  unfold Phi jbOf; rw [e]; exact sum_set H.jb b o h
theorem jbOf_set {H H' : Hm} {b : Nat} {o : Option Jb} (e : H'.jb = H.jb.set b o) (h : b < H.jb.length) : jbOf H' b = o := by
  apply get_jbOf; rw [e, List.getElem?_set_self h]
theorem jbOf_other {H H' : Hm} {b b' : Nat} {o : Option Jb} (e : H'.jb = H.jb.set b o) (h : b' ≠ b) : jbOf H' b' = jbOf H b' := by
  unfold jbOf; rw [e, List.getD_eq_getElem?_getD, List.getD_eq_getElem?_getD, List.getElem?_set_ne (fun e => h e.symm)]
theorem jbOf_same {H H' : Hm} (e : H'.jb = H.jb) (b : Nat) : jbOf H' b = jbOf H b := by unfold jbOf; rw [e]
theorem ones_16 {m : Nat} (h : ∀ i, m.testBit i = true → i < 16) : (ones m).length ≤ 16 := by
  have e : ones m = (List.range 16).filter (fun i => m.testBit i) := by
    unfold ones
    rw [show (32 : Nat) = 16 + 16 from rfl, List.range_add, List.filter_append]
    have : ((List.range 16).map (16 + ·)).filter (fun i => m.testBit i) = [] := List.filter_eq_nil_iff.2 fun x hx hb => by
      obtain ⟨y, _, rfl⟩ := List.mem_map.1 hx
      have := h _ hb; omega
    rw [this, List.append_nil]
  rw [e]
  have := List.length_filter_le (fun i => m.testBit i) (List.range 16)
  rw [List.length_range] at this; exact this

theorem ok_bare {k x b st : Int} (hk : k = 9 ∨ k = 10 ∨ k = 11) (hx : 0 ≤ x ∧ x < 16) (hb : 0 ≤ b ∧ b < 256) (hs : k ≠ 10 → st = 0) : (bare k x (-1) b st 0 false false).ok := by
  refine (rule_ok _ (show 1 ≤ k ∧ k ≤ 11 by omega) hb).2 ?_
  have hT : tH k = true := decide_eq_true (by omega)
  refine ⟨?_, ?_, ?_, ?_, ?_, ?_, ?_, ?_, ?_⟩
  · show (if tH k = true then (-1 : Int) else x) = -1; rw [if_pos hT]
  · show 0 ≤ (if tH k = true then x else (-1 : Int)) ∧ (if tH k = true then x else (-1 : Int)) < 16; rw [if_pos hT]; exact hx
  · intro h
    refine hs fun e => ?_
    subst e
    exact absurd (show sT 10 = false from h) (by decide)
  · intro e; have e' : k = 6 := e; omega
  · intro _; rfl
  · intro _; rfl
  · intro e; have e' : k = 3 ∨ k = 6 := e; omega
  · intro e; cases e
  · intro _; rfl
theorem way_bare {c : Cfg} {k x b st : Int} (hk : k = 9 ∨ k = 10 ∨ k = 11) (hc : 1 ≤ c.co ∧ c.co ≤ 16) (hx : 0 ≤ x ∧ x < c.co) (hb : 0 ≤ b ∧ b < c.data) (hd : c.data ≤ 256) (hs : k ≠ 10 → st = 0) (hw : 0 ≤ st ∧ st < 18446744073709551616) : WayOk c (bare k x (-1) b st 0 false false) :=
  ⟨⟨ok_bare hk (by omega) (by omega) hs, ⟨hx.2, by show (-1 : Int) < c.co; omega⟩, hb.2⟩, rfl, hw⟩
theorem data_256 {c : Cfg} (h : c.may) : c.data ≤ 256 := by
  have h1 := h.fits.mul
  have h2 := h.fits.bl
  unfold Cfg.data
  omega
theorem kn_of {c : Cfg} {H : Hm} (h : Kn c H) (hc : 1 ≤ c.co) (b : Nat) (i : Nat) (hi : (wi (enOf H b).s (enOf H b).o).testBit i = true) : (i : Int) < c.co := by
  unfold enOf at hi
  rw [List.getD_eq_getElem?_getD] at hi
  cases hb : H.en[b]? with
  | none =>
    rw [hb] at hi
    have : wi free.s free.o = 0 := by decide
    simp only [Option.getD_none] at hi
    rw [this, Nat.zero_testBit] at hi; cases hi
  | some e => rw [hb] at hi; exact h e (List.mem_of_getElem? hb) i hi
theorem kn_set {c : Cfg} {H H' : Hm} {b : Nat} {e : En} (h : Kn c H) (he : ∀ i : Nat, (wi e.s e.o).testBit i = true → (i : Int) < c.co) (eq : H'.en = H.en.set b e) : Kn c H' := fun x hx i hi => by
  rw [eq] at hx
  rcases mem_set hx with hx | rfl
  · exact h x hx i hi
  · exact he i hi
theorem kn_gets {c : Cfg} {e : En} {k x : Int} (ha : en.ask e k x = true) (he : ∀ i : Nat, (wi e.s e.o).testBit i = true → (i : Int) < c.co) (hx : x < c.co) (i : Nat) (hi : (wi (gets e k x).1.s (gets e k x).1.o).testBit i = true) : (i : Int) < c.co := by
  obtain ⟨hm, hx0, hk⟩ := ask_parts ha
  have own : ∀ i : Nat, (wi 0 x).testBit i = true → (i : Int) < c.co := fun i hi => by
    rw [wi_bit 0 x (by omega)] at hi
    simp at hi; omega
  unfold en.gets at hi
  rw [if_pos ha] at hi
  split at hi
  · exact own i hi
  · split at hi
    · exact own i hi
    · dsimp only at hi
      rw [wi_out _ (-1) (by omega), wi_bit _ x (by omega), Bool.or_eq_true] at hi
      rcases hi with hi | hi
      · exact he i hi
      · have := of_decide_eq_true hi; omega
theorem kn_back {c : Cfg} {e : En} {x : Int} {st : Bool} (he : ∀ i : Nat, (wi e.s e.o).testBit i = true → (i : Int) < c.co) (hm : (e.may && decide (0 ≤ x ∧ x ≤ 15)) = true) (i : Nat) (hi : (wi (back e x st).1.s (back e x st).1.o).testBit i = true) : (i : Int) < c.co := by
  unfold en.back at hi
  rw [if_pos hm] at hi
  split at hi
  · cases st
    · have : wi free.s free.o = 0 := by decide
      simp only [Bool.false_eq_true, if_false] at hi
      rw [this, Nat.zero_testBit] at hi; cases hi
    · exact he i hi
  · exact he i hi
theorem asks_bits_of {e : En} {k x : Int} (hs : e.s < 4294967296) {i : Nat} (h : (asked e k x).1.testBit i = true) : (wi e.s e.o).testBit i = true := by
  unfold en.asked at h
  split at h
  · have h' : (asks e.o e.s k x).testBit i = true := h
    unfold en.asks at h'
    split at h'
    · rw [Nat.zero_testBit] at h'; cases h'
    · rw [wo_bit _ x (wi_lt _ _ hs)] at h'
      simp at h'; exact h'.1
  · rw [Nat.zero_testBit] at h; cases h
end Go.Proofs.YtenhdijbcdkfbaaDoor.hh

namespace Go.Proofs.YtenhdijbcdkfbaaDoor.hh
open Go
open Go.Proofs.YtenhdijbcdkfbaaDoor.tt (Nt Cfg fits net bare zd usd uses coreOf ok_ends tH sT rule_ok)
open Go.Proofs.YtenhdijbcdkfbaaDoor.en (En gets back asked asks free ask_parts may_parts wo_bit wi_bit ones_mem bit_lt asks_lt)
open Go.Proofs.YtenhdijbcdkfbaaDoor.mm (wi wo ones wo_lt wi_lt wi_out)
set_option linter.unusedVariables false

/-- What a step about the block b makes of a home and of what is on its way. -/
structure Step (c : Cfg) (rf : Bool) (b : Nat) (H : Hm) (way : List Nt) (H' : Hm) (out : List Nt) : Prop where
  w : W c H' (way ++ ways rf out)
  oth : ∀ b', b' ≠ b → jbOf H' b' = jbOf H b'
theorem jobD_other {H H' : Hm} {b : Nat} (h : ∀ b', b' ≠ b → jbOf H' b' = jbOf H b') (x : Int) {b' : Int} (hb : b' ≠ (b : Int)) : jobD H' x b' = jobD H x b' := by
  unfold jobD
  by_cases h0 : 0 ≤ b'
  · rw [if_pos h0, if_pos h0, h b'.toNat (by omega)]
  · rw [if_neg h0, if_neg h0]
theorem jobD_at (H : Hm) (x : Int) (b : Nat) : jobD H x (b : Int) = match jbOf H b with | none => 0 | some j => if j.d = false ∧ j.a.f = x then 1 else 0 := by
  unfold jobD; rw [if_pos (by omega)]; rfl
/-- All of out is about the block b: what comes back is, too. -/
theorem ways_of {b : Nat} {rf : Bool} {out : List Nt} (h : ∀ x ∈ out, x.b = (b : Int)) : ∀ n ∈ ways rf out, n.b = (b : Int) := fun n hn => by
  obtain ⟨x, hx, hn⟩ := List.mem_flatMap.1 hn
  unfold resp at hn
  split at hn
  · rw [List.mem_singleton.1 hn]; split <;> exact h x hx
  · split at hn
    · rw [List.mem_singleton.1 hn]; exact h x hx
    · cases hn
theorem came_other {b : Nat} {out : List Nt} (h : ∀ x ∈ out, x.b = (b : Int)) (x : Int) {b' : Int} (hb : b' ≠ (b : Int)) : came out x b' = 0 := by
  unfold came
  rw [List.countP_eq_zero.2]
  · rfl
  · intro n hn
    unfold cameB
    rw [h n hn]
    simp; omega
/-- The blocks that the step is not about fit as they did. -/
theorem blk_other {c : Cfg} {rf : Bool} {b : Nat} {H H' : Hm} {way out : List Nt} (h : W c H way) (ho : ∀ b', b' ≠ b → jbOf H' b' = jbOf H b') (hout : ∀ x ∈ out, x.b = (b : Int)) (b' : Nat) (hb : b' ≠ b) : Mt (jbOf H' b') (wb (way ++ ways rf out) b') := by
  rw [ho b' hb, wb_append, wb_none (ways_of hout) hb, List.append_nil]
  exact h.blk b'

theorem begin1_step {c : Cfg} (rf : Bool) {H : Hm} {way : List Nt} (h : W c H way) (n : Nt) (hn : Asks c n) (hj : jbOf H n.b.toNat = none) :
    Step c rf n.b.toNat H way (begin1 H n).1 (begin1 H n).2 ∧ (begin1 H n).1.wt = H.wt ∧ (begin1 H n).1.jb.length = H.jb.length ∧
    (∀ x b', jobD (begin1 H n).1 x b' + came (begin1 H n).2 x b' = jobD H x b' + (if waitB x b' n then 1 else 0)) ∧ Phi (begin1 H n).1 ≤ Phi H + 17 := by
  obtain ⟨hb0, hb⟩ := blk_lt hn.fits
  have hbb : ((n.b.toNat : Nat) : Int) = n.b := by omega
  have hlj : n.b.toNat < H.jb.length := by rw [h.inv.lj]; exact hb
  have hinv := h.inv.begin1 n hn
  have hco := h.inv.may.fits.co
  have hbd : 0 ≤ n.b ∧ n.b < c.data := ⟨hb0, hn.fits.2.2⟩
  have hd := data_256 h.inv.may
  have hx := asks_core hn
  have hxc : n.f < c.co := hn.fits.2.1.1
  have hwb : wb way n.b.toNat = [] := by have := h.blk n.b.toNat; rw [hj] at this; exact this
  have hof := (begin1_of h.inv n hn).1
  have hout : ∀ x ∈ (begin1 H n).2, x.b = ((n.b.toNat : Nat) : Int) := fun x hx => by rw [(hof x hx).2, hbb]
  have hwt := begin1_wt H n
  have hlen : (begin1 H n).1.jb.length = H.jb.length := by rw [hinv.lj, h.inv.lj]
  have hd0 : ∀ x, jobD H x n.b = 0 := fun x => by rw [← hbb, jobD_at, hj]
  rcases begin1_ways h.inv n hn with ⟨hk, e⟩ | ⟨hk3, ha0, e⟩ | ⟨hk3, ha, e⟩
  · have e1 : (begin1 H n).1.jb = H.jb := by rw [e]
    have e2 : (begin1 H n).2 = [bare 8 (-1) n.f n.b 0 0 false false] := by rw [e]
    have e3 : (begin1 H n).1.en = H.en.set n.b.toNat (back (enOf H n.b.toNat) n.f n.q).1 := by rw [e]
    have ew : ways rf (begin1 H n).2 = [] := by rw [e2]; rfl
    have ej : ∀ b', jbOf (begin1 H n).1 b' = jbOf H b' := jbOf_same e1
    refine ⟨⟨⟨hinv, kn_set h.kn (fun i hi => kn_back (kn_of h.kn hco.1 n.b.toNat) (by rw [ents_of h.inv]; simp; omega) i hi) e3, ?_, fun b' => ?_⟩, fun b' _ => ej b'⟩, hwt, hlen, fun x b' => ?_, ?_⟩
    · rw [ew, List.append_nil]; exact h.ok
    · rw [ew, List.append_nil, ej]; exact h.blk b'
    · have : jobD (begin1 H n).1 x b' = jobD H x b' := by unfold jobD; rw [ej]
      rw [this, e2, came_cons, came_nil]
      have : cameB x b' (bare 8 (-1) n.f n.b 0 0 false false) = waitB x b' n := by
        unfold cameB waitB
        show (decide (¬ ((8 : Int) = 4 ∨ (8 : Int) = 5)) && _) = _
        rfl
      rw [this]; omega
    · have : Phi (begin1 H n).1 = Phi H := by unfold Phi; rw [e1]
      omega
  · have e1 : (begin1 H n).1.jb = H.jb.set n.b.toNat (some ⟨n, 0, true, false, 0⟩) := by rw [e]
    have e2 : (begin1 H n).2 = [dataN n.f n.b (gets (enOf H n.b.toNat) n.k n.f).2.1 (rowOf H n.b.toNat)] := by rw [e]
    have e3 : (begin1 H n).1.en = H.en.set n.b.toNat (gets (enOf H n.b.toNat) n.k n.f).1 := by rw [e]
    have hk : n.k = 1 ∨ n.k = 2 := by rcases asks_kind hn with e | e | e <;> omega
    obtain ⟨d1, d2, d3, d4, d5, d6⟩ := dataN_parts n.f n.b (gets (enOf H n.b.toNat) n.k n.f).2.1 (rowOf H n.b.toNat)
    have ew : ways rf (begin1 H n).2 = [bare 11 n.f (-1) n.b 0 0 false false] := by
      rw [e2]
      show resp rf _ ++ [] = _
      unfold resp
      rw [if_neg (by rw [d1]; omega), if_pos d1, d3, d4]; rfl
    have ej := jbOf_set e1 hlj
    have eo : ∀ b', b' ≠ n.b.toNat → jbOf (begin1 H n).1 b' = jbOf H b' := fun b' => jbOf_other e1
    refine ⟨⟨⟨hinv, kn_set h.kn (fun i hi => kn_gets (asks_ask hn hk (ents_of h.inv _)) (kn_of h.kn hco.1 n.b.toNat) hxc i hi) e3, ?_, fun b' => ?_⟩, eo⟩, hwt, hlen, fun x b' => ?_, ?_⟩
    · rw [ew]
      intro m hm
      rcases List.mem_append.1 hm with hm | hm
      · exact h.ok m hm
      · rw [List.mem_singleton.1 hm]
        exact way_bare (.inr (.inr rfl)) hco ⟨hx.1, hxc⟩ hbd hd (fun _ => rfl) (by decide)
    · by_cases hbe : b' = n.b.toNat
      · subst hbe
        rw [ej, wb_append, hwb, ew, List.nil_append, wb_all (fun m hm => by rw [List.mem_singleton.1 hm]; exact hbb.symm)]
        exact ⟨fun _ => ⟨_, rfl, rfl, rfl⟩, fun e => by cases e⟩
      · exact blk_other h eo hout b' hbe
    · by_cases hbe : b' = n.b
      · subst hbe
        rw [hd0 x]
        have : jobD (begin1 H n).1 x n.b = 0 := by
          have h0 : jobD (begin1 H n).1 x ((n.b.toNat : Nat) : Int) = if true = false ∧ n.f = x then 1 else 0 := by rw [jobD_at, ej]
          rw [hbb] at h0
          rw [h0, if_neg (fun e => by cases e.1)]
        rw [this, e2, came_cons, came_nil]
        have : cameB x n.b (dataN n.f n.b (gets (enOf H n.b.toNat) n.k n.f).2.1 (rowOf H n.b.toNat)) = waitB x n.b n := by
          unfold cameB waitB
          rw [d1, d3, d4]; rfl
        rw [this]; omega
      · rw [jobD_other eo x (by omega), came_other hout x (by omega)]
        have : waitB x b' n = false := by
          unfold waitB
          rw [decide_eq_false (p := n.b = b') (fun e => hbe e.symm), Bool.and_false]
        rw [this]; simp
    · have := Phi_set (some ⟨n, 0, true, false, 0⟩) hlj (begin1 H n).1 e1
      rw [hj] at this
      have p1 : phi none = 0 := rfl
      have p2 : phi (some ⟨n, 0, true, false, 0⟩) = 1 := rfl
      omega
  · have hal := asked_lt (k := n.k) (x := n.f) (ents_of h.inv n.b.toNat)
    have hsl : (enOf H n.b.toNat).s < 4294967296 := by have := (may_parts (o := (enOf H n.b.toNat).o) (s := (enOf H n.b.toNat).s) (ents_of h.inv n.b.toNat)).2.2.1; omega
    have hab : ∀ i, (asked (enOf H n.b.toNat) n.k n.f).1.testBit i = true → (i : Int) < c.co := fun i hi => kn_of h.kn hco.1 n.b.toNat i (asks_bits_of hsl hi)
    have hby : (asked (enOf H n.b.toNat) n.k n.f).2.1 = 4 ∨ (asked (enOf H n.b.toNat) n.k n.f).2.1 = 5 := by
      unfold en.asked at ha ⊢
      split
      · dsimp only; split
        · exact .inl rfl
        · exact .inr rfl
      · rename_i hc
        rw [if_neg hc] at ha; exact absurd rfl ha
    have e1 : (begin1 H n).1.jb = H.jb.set n.b.toNat (some ⟨n, (asked (enOf H n.b.toNat) n.k n.f).1, false, false, 0⟩) := by rw [e]
    have e3 : (begin1 H n).1.en = H.en := by rw [e]
    have e2 : (begin1 H n).2 = (ones (asked (enOf H n.b.toNat) n.k n.f).1).map fun (x : Nat) => bare (asked (enOf H n.b.toNat) n.k n.f).2.1 (-1) (x : Int) n.b n.st 0 false false := by rw [e]
    generalize (asked (enOf H n.b.toNat) n.k n.f).2.1 = by' at hby e2
    generalize (asked (enOf H n.b.toNat) n.k n.f).1 = m at ha hal hab e1 e2
    have hlen16 : (ones m).length ≤ 16 := ones_16 fun i hi => by have := hab i hi; omega
    have ew : ways rf (begin1 H n).2 = (ones m).map fun (x : Nat) => if rf then bare 10 (x : Int) (-1) n.b ((x : Int) + 1) 0 false false else bare 9 (x : Int) (-1) n.b 0 0 false false := by
      rw [e2]
      unfold ways
      generalize ones m = l
      induction l with
      | nil => rfl
      | cons y l ih =>
        rw [List.map_cons, List.flatMap_cons, ih, List.map_cons]
        have : resp rf (bare by' (-1) (y : Int) n.b n.st 0 false false) = [if rf then bare 10 (y : Int) (-1) n.b ((y : Int) + 1) 0 false false else bare 9 (y : Int) (-1) n.b 0 0 false false] := if_pos hby
        rw [this]; rfl
    have ej := jbOf_set e1 hlj
    have eo : ∀ b', b' ≠ n.b.toNat → jbOf (begin1 H n).1 b' = jbOf H b' := fun b' => jbOf_other e1
    refine ⟨⟨⟨hinv, fun x hx => h.kn x (e3 ▸ hx), ?_, fun b' => ?_⟩, eo⟩, hwt, hlen, fun x b' => ?_, ?_⟩
    · rw [ew]
      intro q hq
      rcases List.mem_append.1 hq with hq | hq
      · exact h.ok q hq
      · obtain ⟨y, hy, rfl⟩ := List.mem_map.1 hq
        have hyc := hab y (ones_mem.1 hy).2
        cases rf
        · exact way_bare (.inl rfl) hco ⟨by omega, hyc⟩ hbd hd (fun _ => rfl) (by decide)
        · exact way_bare (.inr (.inl rfl)) hco ⟨by omega, hyc⟩ hbd hd (fun e => absurd rfl e) (by omega)
    · by_cases hbe : b' = n.b.toNat
      · subst hbe
        rw [ej, wb_append, hwb, List.nil_append, wb_all (ways_of hout), ew]
        refine ⟨fun e => (by cases e), fun _ => ⟨ha, fun q hq => ?_, ?_⟩⟩
        · obtain ⟨y, hy, rfl⟩ := List.mem_map.1 hq
          cases rf
          · exact .inl rfl
          · exact .inr rfl
        · rw [List.map_map]
          refine List.Perm.of_eq (List.map_congr_left fun y _ => ?_)
          cases rf <;> rfl
      · exact blk_other h eo hout b' hbe
    · by_cases hbe : b' = n.b
      · subst hbe
        rw [hd0 x]
        have h1 : jobD (begin1 H n).1 x n.b = if waitB x n.b n then 1 else 0 := by
          have h0 : jobD (begin1 H n).1 x ((n.b.toNat : Nat) : Int) = if false = false ∧ n.f = x then 1 else 0 := by rw [jobD_at, ej]
          rw [hbb] at h0
          rw [h0]
          unfold waitB
          by_cases hx : n.f = x <;> simp [hx]
        have h2 : came (begin1 H n).2 x n.b = 0 := by
          unfold came
          rw [List.countP_eq_zero.2]
          · rfl
          · intro q hq
            rw [e2] at hq
            obtain ⟨y, _, rfl⟩ := List.mem_map.1 hq
            unfold cameB
            have : decide (¬ ((bare by' (-1) (y : Int) n.b n.st 0 false false).k = 4 ∨ (bare by' (-1) (y : Int) n.b n.st 0 false false).k = 5)) = false := decide_eq_false (fun e => e hby)
            rw [this]; simp
        rw [h1, h2]; omega
      · rw [jobD_other eo x (by omega), came_other hout x (by omega)]
        have : waitB x b' n = false := by
          unfold waitB
          rw [decide_eq_false (p := n.b = b') (fun e => hbe e.symm), Bool.and_false]
        rw [this]; simp
    · have := Phi_set (some ⟨n, m, false, false, 0⟩) hlj (begin1 H n).1 e1
      rw [hj] at this
      have p1 : phi none = 0 := rfl
      have p2 : phi (some ⟨n, m, false, false, 0⟩) = (ones m).length + 1 := rfl
      omega
end Go.Proofs.YtenhdijbcdkfbaaDoor.hh

namespace Go.Proofs.YtenhdijbcdkfbaaDoor.hh
open Go
open Go.Proofs.YtenhdijbcdkfbaaDoor.tt (Nt Cfg fits net bare zd usd uses coreOf ok_ends tH sT rule_ok)
open Go.Proofs.YtenhdijbcdkfbaaDoor.en (En gets back asked asks free ask_parts may_parts wo_bit wi_bit ones_mem bit_lt asks_lt)
open Go.Proofs.YtenhdijbcdkfbaaDoor.mm (wi wo ones wo_lt wi_lt wi_out)
set_option linter.unusedVariables false

theorem W.waits {c : Cfg} {H : Hm} {way : List Nt} (h : W c H way) (ws : List Nt) (hw : ∀ n ∈ ws, Asks c n) : W c { H with wt := ws } way := ⟨h.inv.waits ws hw, h.kn, h.ok, h.blk⟩
theorem ways_nil (rf : Bool) : ways rf [] = [] := rfl

theorem run_step {c : Cfg} (rf : Bool) (b : Nat) : ∀ (rest : List Nt) (H : Hm) (way pre : List Nt), W c H way → (∀ n ∈ pre, Asks c n ∧ n.b ≠ (b : Int)) → (∀ n ∈ rest, Asks c n) →
    Step c rf b H way (run b H pre rest).1 (run b H pre rest).2 ∧ (∀ x b', waits (run b H pre rest).1.wt x b' + jobD (run b H pre rest).1 x b' + came (run b H pre rest).2 x b' = waits (pre ++ rest) x b' + jobD H x b') ∧
    ((jbOf (run b H pre rest).1 b).isSome = true ∨ ∀ n ∈ (run b H pre rest).1.wt, n.b ≠ (b : Int)) ∧ (∀ n ∈ (run b H pre rest).1.wt, n ∈ pre ++ rest) ∧
    Phi (run b H pre rest).1 + 17 * (run b H pre rest).1.wt.length ≤ Phi H + 17 * (pre ++ rest).length
  | [], H, way, pre, h, hp, hr => by
    have hp' : ∀ n ∈ pre, Asks c n := fun n hn => (hp n hn).1
    unfold run
    rw [List.append_nil]
    exact ⟨⟨by rw [ways_nil, List.append_nil]; exact h.waits pre hp', fun b' _ => rfl⟩, fun x b' => by rw [came_nil]; show waits pre x b' + jobD H x b' + 0 = _; omega, .inr fun n hn => (hp n hn).2, fun n hn => hn, Nat.le_refl _⟩
  | n :: rest, H, way, pre, h, hp, hr => by
    have hn := hr n (by simp)
    have hr' : ∀ m ∈ rest, Asks c m := fun m hm => hr m (by simp [hm])
    obtain ⟨hb0, hbl⟩ := blk_lt hn.fits
    unfold run
    by_cases hs : (jbOf H b).isSome = true
    · rw [if_pos hs]
      have hpr : ∀ m ∈ pre ++ n :: rest, Asks c m := fun m hm => by
        rcases List.mem_append.1 hm with hm | hm
        · exact (hp m hm).1
        · exact hr m hm
      exact ⟨⟨by rw [ways_nil, List.append_nil]; exact h.waits _ hpr, fun b' _ => rfl⟩, fun x b' => by rw [came_nil]; show waits (pre ++ n :: rest) x b' + jobD H x b' + 0 = _; omega, .inl hs, fun n hn => hn, Nat.le_refl _⟩
    · rw [if_neg hs]
      by_cases hb : n.b = (b : Int)
      · rw [if_pos hb]
        have hbn : n.b.toNat = b := by omega
        have hj : jbOf H n.b.toNat = none := by
          rw [hbn]
          cases e : jbOf H b with
          | none => rfl
          | some j => rw [e] at hs; exact absurd rfl hs
        obtain ⟨s1, s2, s3, s4, s5⟩ := begin1_step rf h n hn hj
        rw [hbn] at s1
        obtain ⟨r1, r2, r3, r4, r5⟩ := run_step rf b rest (begin1 H n).1 (way ++ ways rf (begin1 H n).2) pre s1.w hp hr'
        dsimp only
        generalize run b (begin1 H n).1 pre rest = q at r1 r2 r3 r4 r5
        refine ⟨⟨by rw [ways_append, ← List.append_assoc]; exact r1.w, fun b' hb' => (r1.oth b' hb').trans (s1.oth b' hb')⟩, fun x b' => ?_, r3, fun m hm => ?_, ?_⟩
        · have e1 := r2 x b'
          have e2 := s4 x b'
          rw [came_append, waits_append, waits_cons]
          rw [waits_append] at e1
          omega
        · rcases List.mem_append.1 (r4 m hm) with hm | hm
          · exact List.mem_append_left _ hm
          · exact List.mem_append_right _ (by simp [hm])
        · rw [List.length_append] at r5 ⊢
          rw [List.length_cons]
          omega
      · rw [if_neg hb]
        obtain ⟨r1, r2, r3, r4, r5⟩ := run_step rf b rest H way (pre ++ [n]) h (fun m hm => by
          rcases List.mem_append.1 hm with hm | hm
          · exact hp m hm
          · rw [List.mem_singleton.1 hm]; exact ⟨hn, hb⟩) hr'
        rw [List.append_assoc, List.singleton_append] at r2 r4 r5
        exact ⟨r1, r2, r3, r4, r5⟩

/-- What holds of a home, of what is on its way, and of how many answers are due. -/
structure FI (c : Cfg) (H : Hm) (way : List Nt) (D : Int → Int → Int) : Prop where
  w : W c H way
  wtj : ∀ n ∈ H.wt, (jbOf H n.b.toNat).isSome = true
  cnt : ∀ x b, D x b = waits H.wt x b + jobD H x b
/-- How many notes may still come. -/
def Pot (H : Hm) : Nat := Phi H + 17 * H.wt.length

theorem fin_step {c : Cfg} (rf : Bool) {H : Hm} {way : List Nt} {D : Int → Int → Int} (b : Nat) (h : W c { H with jb := H.jb.set b none } way) (hw : ∀ n ∈ H.wt, (jbOf H n.b.toNat).isSome = true)
    (hc : ∀ x b', D x b' = waits H.wt x b' + jobD { H with jb := H.jb.set b none } x b') :
    FI c (fin H b).1 (way ++ ways rf (fin H b).2) (fun x b' => D x b' - came (fin H b).2 x b') ∧ Pot (fin H b).1 ≤ Phi { H with jb := H.jb.set b none } + 17 * H.wt.length := by
  obtain ⟨r1, r2, r3, r4, r5⟩ := run_step rf b H.wt { H with jb := H.jb.set b none } way [] h (fun n hn => by cases hn) h.inv.wait
  have e : fin H b = run b { H with jb := H.jb.set b none } [] H.wt := rfl
  rw [← e] at r1 r2 r3 r4 r5
  refine ⟨⟨r1.w, fun n hn => ?_, fun x b' => ?_⟩, r5⟩
  · have hn' : n ∈ H.wt := r4 n hn
    by_cases hb : n.b = (b : Int)
    · rcases r3 with h3 | h3
      · rw [show n.b.toNat = b by omega]; exact h3
      · exact absurd hb (h3 n hn)
    · have h0 := (blk_lt (h.inv.wait n hn').fits).1
      have hne : n.b.toNat ≠ b := by omega
      rw [r1.oth _ hne, jbOf_other (H := H) (b := b) (o := none) rfl hne]
      exact hw n hn'
  · have e1 := r2 x b'
    have e2 := hc x b'
    show D x b' - came (fin H b).2 x b' = _
    rw [List.nil_append] at e1
    omega

theorem ask_step {c : Cfg} (rf : Bool) {H : Hm} {way : List Nt} {D : Int → Int → Int} (h : FI c H way D) (n : Nt) (ha : net n.k = 0) (hr : ready c H n = 0) :
    (take c H n).2.2 = 0 ∧ FI c (take c H n).1 (way ++ ways rf (take c H n).2.1) (fun x b => D x b + (if waitB x b n then 1 else 0) - came (take c H n).2.1 x b) ∧ Pot (take c H n).1 ≤ Pot H + 17 := by
  obtain ⟨hf, ht⟩ := ready_fits hr
  have hn : Asks c n := ⟨hf, ht, ha⟩
  rcases take_ways h.w.inv n hr with ⟨_, hj, _, e⟩ | ⟨_, hj, e⟩ | ⟨hk, _⟩ | ⟨hk, _⟩
  · rw [e]
    refine ⟨rfl, ⟨?_, fun m hm => ?_, fun x b => ?_⟩, ?_⟩
    · show W c { H with wt := H.wt ++ [n] } (way ++ ways rf [])
      rw [ways_nil, List.append_nil]
      exact h.w.waits _ fun m hm => by
        rcases List.mem_append.1 hm with hm | hm
        · exact h.w.inv.wait m hm
        · rw [List.mem_singleton.1 hm]; exact hn
    · rcases List.mem_append.1 hm with hm | hm
      · exact h.wtj m hm
      · rw [List.mem_singleton.1 hm]; exact hj
    · show D x b + _ - came [] x b = waits (H.wt ++ [n]) x b + jobD H x b
      have := h.cnt x b
      rw [came_nil, waits_append, waits_cons]
      have e0 : waits [] x b = 0 := rfl
      omega
    · show Phi H + 17 * (H.wt ++ [n]).length ≤ Phi H + 17 * H.wt.length + 17
      rw [List.length_append, List.length_singleton]
      omega
  · rw [e]
    obtain ⟨s1, s2, s3, s4, s5⟩ := begin1_step rf h.w n hn hj
    refine ⟨rfl, ⟨s1.w, fun m hm => ?_, fun x b => ?_⟩, ?_⟩
    · have hm' : m ∈ H.wt := s2 ▸ hm
      have hs := h.wtj m hm'
      have hne : m.b.toNat ≠ n.b.toNat := fun e => by rw [e, hj] at hs; cases hs
      show (jbOf (begin1 H n).1 m.b.toNat).isSome = true
      rw [s1.oth _ hne]; exact hs
    · have e1 := s4 x b
      have e2 := h.cnt x b
      show D x b + _ - came (begin1 H n).2 x b = waits (begin1 H n).1.wt x b + jobD (begin1 H n).1 x b
      rw [s2]
      omega
    · show Phi (begin1 H n).1 + 17 * (begin1 H n).1.wt.length ≤ Phi H + 17 * H.wt.length + 17
      rw [s2]; omega
  · have := asks_kind hn; omega
  · have := asks_kind hn; omega

/-- One note less is on its way. -/
theorem wb_erase {way : List Nt} {i : Nat} {n : Nt} (hi : way[i]? = some n) (b : Nat) : (wb way b).Perm ((if n.b = (b : Int) then [n] else []) ++ wb (way.eraseIdx i) b) := by
  obtain ⟨hl, e⟩ := List.getElem?_eq_some_iff.1 hi
  have p : (n :: way.eraseIdx i).Perm way := by
    have hd : way.drop i = n :: way.drop (i + 1) := by rw [List.drop_eq_getElem_cons hl, e]
    have hw : way.take i ++ n :: way.drop (i + 1) = way := by rw [← hd, List.take_append_drop]
    rw [List.eraseIdx_eq_take_drop_succ]
    exact (List.perm_middle.symm).trans (List.Perm.of_eq hw)
  have q := (p.filter (fun n => decide (n.b = (b : Int)))).symm
  unfold wb
  refine q.trans (List.Perm.of_eq ?_)
  by_cases hb : n.b = (b : Int)
  · rw [List.filter_cons_of_pos (by simpa using hb), if_pos hb]; rfl
  · rw [List.filter_cons_of_neg (by simpa using hb), if_neg hb]; rfl
theorem mem_erase {way : List Nt} {i : Nat} {m : Nt} (h : m ∈ way.eraseIdx i) : m ∈ way := List.mem_of_mem_eraseIdx h
theorem ones_nodup (m : Nat) : (ones m).Nodup := List.nodup_range.filter _
theorem ones_wo (m : Nat) (f : Int) (hm : m < 4294967296) (h0 : 0 ≤ f) (h : m.testBit f.toNat = true) : (ones m).Perm (f.toNat :: ones (wo m f)) := by
  have hf : f.toNat ∈ ones m := ones_mem.2 ⟨bit_lt hm h, h⟩
  refine (List.perm_cons_erase hf).trans (List.Perm.cons _ (List.Perm.of_eq ?_))
  rw [(ones_nodup m).erase_eq_filter]
  unfold mm.ones
  rw [List.filter_filter]
  refine List.filter_congr fun j hj => ?_
  rw [wo_bit m f hm]
  cases hb : m.testBit j
  · simp
  · by_cases e : j = f.toNat
    · subst e
      rw [decide_eq_true (show ((f.toNat : Nat) : Int) = f by omega)]; simp
    · rw [decide_eq_false (show ¬ ((j : Int) = f) by omega)]
      simp [e]
/-- A note that is on its way is taken. -/
theorem one_step {c : Cfg} (rf : Bool) {H : Hm} {way : List Nt} {D : Int → Int → Int} (h : FI c H way D) (i : Nat) (n : Nt) (hi : way[i]? = some n) :
    ready c H n = 0 ∧ (take c H n).2.2 = 0 ∧ FI c (take c H n).1 (way.eraseIdx i ++ ways rf (take c H n).2.1) (fun x b => D x b - came (take c H n).2.1 x b) ∧ Pot (take c H n).1 + 1 ≤ Pot H := by
  have hmem : n ∈ way := List.mem_of_getElem? hi
  have hok := h.w.ok n hmem
  obtain ⟨hb0, hb⟩ := blk_lt hok.fits
  have hbb : ((n.b.toNat : Nat) : Int) = n.b := by omega
  have hlj : n.b.toNat < H.jb.length := by rw [h.w.inv.lj]; exact hb
  have hp := wb_erase hi n.b.toNat
  rw [if_pos hbb.symm, List.singleton_append] at hp
  have hmt := (h.w.blk n.b.toNat).perm hp
  have hoth : ∀ b', b' ≠ n.b.toNat → Mt (jbOf H b') (wb (way.eraseIdx i) b') := fun b' hne => by
    have := wb_erase hi b'
    rw [if_neg (by omega), List.nil_append] at this
    exact (h.w.blk b').perm this
  have hok1 : ∀ m ∈ way.eraseIdx i, WayOk c m := fun m hm => h.w.ok m (mem_erase hm)
  have hkey : ∃ j, jbOf H n.b.toNat = some j ∧ ((j.d = true ∧ n.k = 11 ∧ n.f = j.a.f ∧ wb (way.eraseIdx i) n.b.toNat = []) ∨
      (j.d = false ∧ (n.k = 9 ∨ n.k = 10) ∧ j.w ≠ 0 ∧ j.w.testBit n.f.toNat = true ∧ 0 ≤ n.f ∧ (∀ m ∈ wb (way.eraseIdx i) n.b.toNat, m.k = 9 ∨ m.k = 10) ∧ ((wb (way.eraseIdx i) n.b.toNat).map (·.f)).Perm ((ones (wo j.w n.f)).map fun (x : Nat) => (x : Int)))) := by
    cases hj : jbOf H n.b.toNat with
    | none => rw [hj] at hmt; cases hmt
    | some j =>
      rw [hj] at hmt
      refine ⟨j, rfl, ?_⟩
      cases hd : j.d
      · obtain ⟨a1, a2, a3⟩ := hmt.2 hd
        have hjw := (h.w.inv.jobs _ j (jbOf_get hj)).w
        have hm1 : n.f ∈ (ones j.w).map fun (x : Nat) => (x : Int) := a3.mem_iff.1 (by simp)
        obtain ⟨y, hy, hyf⟩ := List.mem_map.1 hm1
        have hf0 : 0 ≤ n.f := by omega
        have hyn : n.f.toNat = y := by omega
        have hbit : j.w.testBit n.f.toNat = true := by rw [hyn]; exact (ones_mem.1 hy).2
        refine .inr ⟨rfl, a2 n (by simp), a1, hbit, hf0, fun m hm => a2 m (by simp [hm]), ?_⟩
        have p2 := (ones_wo j.w n.f hjw hf0 hbit).map (fun (x : Nat) => (x : Int))
        rw [List.map_cons, show ((n.f.toNat : Nat) : Int) = n.f by omega] at p2
        have p3 := a3.trans p2
        rw [List.map_cons] at p3
        exact List.Perm.cons_inv p3
      · obtain ⟨m, hm, hk, hf⟩ := hmt.1 hd
        have e1 := (List.cons.inj hm).1
        have e2 := (List.cons.inj hm).2
        subst e1
        exact .inl ⟨rfl, hk, hf, e2⟩
  obtain ⟨j, hj, hcase⟩ := hkey
  have hjok := h.w.inv.jobs _ j (jbOf_get hj)
  have hready : ready c H n = 0 := by
    unfold ready
    rw [if_neg (fun e => e.elim (fun e => e hok.fits) (fun e => e hok.to))]
    rcases hcase with ⟨hd, hk, hf, _⟩ | ⟨hd, hk, _, hbit, _⟩
    · have hnet : ¬ tt.net n.k = 0 := by rw [hk]; decide
      rw [if_neg hnet, hj]
      dsimp only
      rw [if_pos hk, if_pos ⟨hd, hf.symm⟩]
    · have hnet : ¬ tt.net n.k = 0 := by rcases hk with hk | hk <;> (rw [hk]; decide)
      rw [if_neg hnet, hj]
      dsimp only
      rw [if_neg (by omega), if_pos ⟨hd, hbit⟩]
  -- the note's own block: nothing is under way any more
  have hnone : wb (way.eraseIdx i) n.b.toNat = [] → ∀ mm', Inv c { H with mm := mm', jb := H.jb.set n.b.toNat none } → W c { H with mm := mm', jb := H.jb.set n.b.toNat none } (way.eraseIdx i) := fun hw mm' hi' =>
    ⟨hi', h.w.kn, hok1, fun b' => by
      by_cases hne : b' = n.b.toNat
      · subst hne
        rw [jbOf_set (H := H) (H' := { H with mm := mm', jb := H.jb.set n.b.toNat none }) rfl hlj]
        exact hw
      · rw [jbOf_other (H := H) (H' := { H with mm := mm', jb := H.jb.set n.b.toNat none }) rfl hne]
        exact hoth b' hne⟩
  have hjd : ∀ x, jobD H x n.b = if j.d = false ∧ j.a.f = x then 1 else 0 := fun x => by rw [← hbb, jobD_at, hj]
  rcases take_ways h.w.inv n hready with ⟨ha, _⟩ | ⟨ha, _⟩ | ⟨hk, ⟨j', hj', hd', hf'⟩, e⟩ | ⟨hk, j', hj', hd', hbit', h3⟩
  · have := asks_kind ha
    rcases hcase with ⟨_, hk, _⟩ | ⟨_, hk, _⟩ <;> omega
  · have := asks_kind ha
    rcases hcase with ⟨_, hk, _⟩ | ⟨_, hk, _⟩ <;> omega
  · -- the ask ends
    obtain rfl : j = j' := Option.some.inj (hj.symm.trans hj')
    rcases hcase with ⟨hd, _, _, hw⟩ | ⟨hd, _⟩
    · rw [e]
      have hi0 : Inv c { H with jb := H.jb.set n.b.toNat none } := h.w.inv.job _ _ fun j hj => by cases hj
      have hw1 := hnone hw H.mm hi0
      obtain ⟨f1, f2⟩ := fin_step (D := D) rf n.b.toNat hw1 h.wtj (fun x b' => by
        have := h.cnt x b'
        rw [this]
        by_cases hbe : b' = n.b
        · subst hbe
          rw [hjd x, if_neg (fun e => by rw [hd] at e; cases e.1)]
          have e0 := jobD_at { H with jb := H.jb.set n.b.toNat none } x n.b.toNat
          rw [hbb, jbOf_set (H := H) (H' := { H with jb := H.jb.set n.b.toNat none }) rfl hlj] at e0
          rw [e0]
        · rw [jobD_other (H := H) (H' := { H with jb := H.jb.set n.b.toNat none }) (b := n.b.toNat) (fun b'' hne => jbOf_other rfl hne) x (by omega)])
      refine ⟨hready, rfl, f1, ?_⟩
      have := Phi_set (H := H) none hlj { H with jb := H.jb.set n.b.toNat none } rfl
      rw [hj] at this
      have p1 : phi none = 0 := rfl
      have p2 : phi (some j) = 1 := by unfold phi; dsimp only; rw [if_pos hd]
      show Pot (fin H n.b.toNat).1 + 1 ≤ Phi H + 17 * H.wt.length
      omega
    · rw [hd'] at hd; cases hd
  · obtain rfl : j = j' := Option.some.inj (hj.symm.trans hj')
    rcases hcase with ⟨hd, _⟩ | ⟨hd, hk, hw0, hbit, hf0, hks, hperm⟩
    · rw [hd'] at hd; cases hd
    · have hinv1 := h.w.inv.noted n hok.fits j hj hok.word
      have hlen1 : (ones j.w).length = (ones (wo j.w n.f)).length + 1 := by
        have := (ones_wo j.w n.f hjok.w hf0 hbit).length_eq
        simpa using this
      have hph : phi (some j) = (ones j.w).length + 1 := by unfold phi; dsimp only; rw [hd]; rfl
      have hpn : phi (some (noted j n)) = (ones (wo j.w n.f)).length + 1 := by
        unfold phi noted; dsimp only; rw [hd]; rfl
      have hset := Phi_set (H := H) (some (noted j n)) hlj { H with mm := if n.h then H.mm.set n.b.toNat n.d else H.mm, jb := H.jb.set n.b.toNat (some (noted j n)) } rfl
      rw [hj, hph, hpn] at hset
      have hjs : jbOf { H with mm := if n.h then H.mm.set n.b.toNat n.d else H.mm, jb := H.jb.set n.b.toNat (some (noted j n)) } n.b.toNat = some (noted j n) := jbOf_set (H := H) rfl hlj
      have hjo : ∀ b', b' ≠ n.b.toNat → jbOf { H with mm := if n.h then H.mm.set n.b.toNat n.d else H.mm, jb := H.jb.set n.b.toNat (some (noted j n)) } b' = jbOf H b' := fun b' hne => jbOf_other (H := H) rfl hne
      generalize hH1 : ({ H with mm := if n.h then H.mm.set n.b.toNat n.d else H.mm, jb := H.jb.set n.b.toNat (some (noted j n)) } : Hm) = H1 at h3 hinv1 hset hjs hjo
      have hwt1 : H1.wt = H.wt := by rw [← hH1]
      have hkn1 : Kn c H1 := by rw [← hH1]; exact h.w.kn
      have hlj1 : n.b.toNat < H1.jb.length := by rw [← hH1]; show n.b.toNat < (H.jb.set _ _).length; rw [List.length_set]; exact hlj
      have hwtj1 : ∀ m ∈ H1.wt, (jbOf H1 m.b.toNat).isSome = true := fun m hm => by
        rw [hwt1] at hm
        by_cases hne : m.b.toNat = n.b.toNat
        · rw [hne, hjs]; rfl
        · rw [hjo _ hne]; exact h.wtj m hm
      rcases h3 with ⟨hw1, e⟩ | ⟨hw1, hr1, e⟩ | ⟨hw1, hr1, e⟩
      · rw [e]
        refine ⟨hready, rfl, ⟨?_, hwtj1, fun x b' => ?_⟩, ?_⟩
        · show W c H1 (way.eraseIdx i ++ ways rf [])
          rw [ways_nil, List.append_nil]
          refine ⟨hinv1, hkn1, hok1, fun b' => ?_⟩
          by_cases hne : b' = n.b.toNat
          · subst hne
            rw [hjs]
            exact ⟨fun e => (by rw [show (noted j n).d = j.d from rfl, hd] at e; cases e), fun _ => ⟨hw1, hks, hperm⟩⟩
          · rw [hjo b' hne]; exact hoth b' hne
        · show D x b' - came [] x b' = waits H1.wt x b' + jobD H1 x b'
          rw [came_nil, hwt1, h.cnt x b']
          by_cases hbe : b' = n.b
          · subst hbe
            have : jobD H1 x n.b = if (noted j n).d = false ∧ (noted j n).a.f = x then 1 else 0 := by rw [← hbb, jobD_at, hjs]
            rw [this, hjd x]
            show _ = _ + (if j.d = false ∧ j.a.f = x then (1 : Int) else 0)
            omega
          · rw [jobD_other (H := H) (H' := H1) hjo x (by omega)]; omega
        · show Phi H1 + 17 * H1.wt.length + 1 ≤ Phi H + 17 * H.wt.length
          rw [hwt1]; omega
      · have hz : ones (wo j.w n.f) = [] := by
          rw [show wo j.w n.f = 0 from hw1]; exact mm.ones_zero
        have hwbn : wb (way.eraseIdx i) n.b.toNat = [] := by
          rw [hz, List.map_nil] at hperm
          exact List.map_eq_nil_iff.1 hperm.eq_nil
        rw [e]
        have hset2 : H1.jb.set n.b.toNat none = H.jb.set n.b.toNat none := by
          rw [← hH1]; show (H.jb.set _ _).set _ _ = _; rw [List.set_set]
        have hi2 : Inv c { H1 with jb := H1.jb.set n.b.toNat none } := hinv1.job _ _ fun j hj => by cases hj
        have hw2 : W c { H1 with jb := H1.jb.set n.b.toNat none } (way.eraseIdx i) := by
          have e2 : ({ H1 with jb := H1.jb.set n.b.toNat none } : Hm) = { H with mm := H1.mm, jb := H.jb.set n.b.toNat none } := by
            rw [hset2, ← hH1]
          rw [e2] at hi2 ⊢
          exact hnone hwbn H1.mm hi2
        have hD2 : ∀ x b', (D x b' - (if cameB x b' (bare 7 (-1) j.a.f n.b (noted j n).l 0 false false) then 1 else 0)) = waits H1.wt x b' + jobD { H1 with jb := H1.jb.set n.b.toNat none } x b' := fun x b' => by
          have e4 : waits H1.wt x b' = waits H.wt x b' := by rw [hwt1]
          rw [e4, h.cnt x b']
          by_cases hbe : b' = n.b
          · subst hbe
            have e0 : jobD { H1 with jb := H1.jb.set n.b.toNat none } x n.b = 0 := by
              have e1 := jobD_at { H1 with jb := H1.jb.set n.b.toNat none } x n.b.toNat
              rw [hbb, jbOf_set (H := H1) (H' := { H1 with jb := H1.jb.set n.b.toNat none }) rfl hlj1] at e1
              exact e1
            rw [e0, hjd x]
            have ec : cameB x n.b (bare 7 (-1) j.a.f n.b (noted j n).l 0 false false) = decide (j.a.f = x) := by
              unfold cameB
              show (decide (¬ ((7 : Int) = 4 ∨ (7 : Int) = 5)) && (decide (j.a.f = x) && decide (n.b = n.b))) = _
              simp
            rw [ec]
            by_cases hx : j.a.f = x
            · rw [decide_eq_true hx, if_pos ⟨hd, hx⟩, if_pos rfl]; omega
            · rw [decide_eq_false hx, if_neg (fun e => hx e.2)]; simp
          · have ec : cameB x b' (bare 7 (-1) j.a.f n.b (noted j n).l 0 false false) = false := by
              unfold cameB
              show (_ && (_ && decide (n.b = b'))) = false
              rw [decide_eq_false (p := n.b = b') (fun e => hbe e.symm)]; simp
            rw [ec, jobD_other (H := H) (H' := { H1 with jb := H1.jb.set n.b.toNat none }) (b := n.b.toNat) (fun b'' hne => (jbOf_other (H := H1) rfl hne).trans (hjo b'' hne)) x (by omega)]
            simp
        obtain ⟨f1, f2⟩ := fin_step rf n.b.toNat hw2 hwtj1 hD2
        refine ⟨hready, rfl, ?_, ?_⟩
        · have ew : ways rf (bare 7 (-1) j.a.f n.b (noted j n).l 0 false false :: (fin H1 n.b.toNat).2) = ways rf (fin H1 n.b.toNat).2 := rfl
          show FI c (fin H1 n.b.toNat).1 (way.eraseIdx i ++ ways rf (bare 7 (-1) j.a.f n.b (noted j n).l 0 false false :: (fin H1 n.b.toNat).2)) _
          rw [ew]
          have eD : (fun x b => D x b - came (bare 7 (-1) j.a.f n.b (noted j n).l 0 false false :: (fin H1 n.b.toNat).2) x b) = (fun x b' => (D x b' - (if cameB x b' (bare 7 (-1) j.a.f n.b (noted j n).l 0 false false) then 1 else 0)) - came (fin H1 n.b.toNat).2 x b') := by
            funext x b'
            rw [came_cons]; omega
          rw [eD]
          exact f1
        · have p1 := Phi_set (H := H1) none hlj1 { H1 with jb := H1.jb.set n.b.toNat none } rfl
          rw [hjs, hpn] at p1
          have p0 : phi none = 0 := rfl
          show Pot (fin H1 n.b.toNat).1 + 1 ≤ Phi H + 17 * H.wt.length
          have e4 : H1.wt.length = H.wt.length := by rw [hwt1]
          omega
      · have hz : ones (wo j.w n.f) = [] := by
          rw [show wo j.w n.f = 0 from hw1]; exact mm.ones_zero
        have hwbn : wb (way.eraseIdx i) n.b.toNat = [] := by
          rw [hz, List.map_nil] at hperm
          exact List.map_eq_nil_iff.1 hperm.eq_nil
        rw [e]
        have hai := hinv1.answer n.b.toNat
        have ean : answer H1 n.b.toNat = ({ H1 with en := H1.en.set n.b.toNat (gets (enOf H1 n.b.toNat) j.a.k j.a.f).1, jb := H1.jb.set n.b.toNat (some { noted j n with d := true }) }, [dataN j.a.f (n.b.toNat : Int) (gets (enOf H1 n.b.toNat) j.a.k j.a.f).2.1 (rowOf H1 n.b.toNat)]) := by
          unfold answer; rw [hjs]; rfl
        obtain ⟨d1, d2, d3, d4, d5, d6⟩ := dataN_parts j.a.f (n.b.toNat : Int) (gets (enOf H1 n.b.toNat) j.a.k j.a.f).2.1 (rowOf H1 n.b.toNat)
        have a1 : (answer H1 n.b.toNat).1.jb = H1.jb.set n.b.toNat (some { noted j n with d := true }) := by rw [ean]
        have a2 : (answer H1 n.b.toNat).2 = [dataN j.a.f (n.b.toNat : Int) (gets (enOf H1 n.b.toNat) j.a.k j.a.f).2.1 (rowOf H1 n.b.toNat)] := by rw [ean]
        have a3 : (answer H1 n.b.toNat).1.en = H1.en.set n.b.toNat (gets (enOf H1 n.b.toNat) j.a.k j.a.f).1 := by rw [ean]
        have a4 : (answer H1 n.b.toNat).1.wt = H.wt := by rw [ean]; exact hwt1
        have aj := jbOf_set (H := H1) (H' := (answer H1 n.b.toNat).1) a1 hlj1
        have ao : ∀ b', b' ≠ n.b.toNat → jbOf (answer H1 n.b.toNat).1 b' = jbOf H b' := fun b' hne => (jbOf_other (H := H1) a1 hne).trans (hjo b' hne)
        have ew : ways rf (answer H1 n.b.toNat).2 = [bare 11 j.a.f (-1) n.b 0 0 false false] := by
          rw [a2]
          show resp rf _ ++ [] = _
          unfold resp
          rw [if_neg (by rw [d1]; omega), if_pos d1, d3, d4, hbb]; rfl
        have hco := h.w.inv.may.fits.co
        have hx := asks_core hjok.asks
        have hxc : j.a.f < c.co := hjok.asks.fits.2.1.1
        have hp1 := Phi_set (H := H1) (some { noted j n with d := true }) hlj1 (answer H1 n.b.toNat).1 a1
        rw [hjs, hpn] at hp1
        have pd : phi (some { noted j n with d := true }) = 1 := rfl
        refine ⟨hready, rfl, ⟨⟨hai, ?_, ?_, fun b' => ?_⟩, fun m hm => ?_, fun x b' => ?_⟩, ?_⟩
        · exact kn_set hkn1 (fun i hi => kn_gets (asks_ask hjok.asks hjok.kind (ents_of hinv1 _)) (kn_of hkn1 hco.1 n.b.toNat) hxc i hi) a3
        · show ∀ m ∈ way.eraseIdx i ++ ways rf (answer H1 n.b.toNat).2, WayOk c m
          rw [ew]
          intro m hm
          rcases List.mem_append.1 hm with hm | hm
          · exact hok1 m hm
          · rw [List.mem_singleton.1 hm]
            exact way_bare (.inr (.inr rfl)) hco ⟨hx.1, hxc⟩ ⟨hb0, hok.fits.2.2⟩ (data_256 h.w.inv.may) (fun _ => rfl) (by decide)
        · show Mt (jbOf (answer H1 n.b.toNat).1 b') (wb (way.eraseIdx i ++ ways rf (answer H1 n.b.toNat).2) b')
          by_cases hne : b' = n.b.toNat
          · subst hne
            rw [aj, wb_append, hwbn, ew, List.nil_append, wb_all (fun m hm => by rw [List.mem_singleton.1 hm]; exact hbb.symm)]
            exact ⟨fun _ => ⟨_, rfl, rfl, rfl⟩, fun e => (by cases e)⟩
          · rw [ao b' hne, wb_append, ew, wb_none (l := [bare 11 j.a.f (-1) n.b 0 0 false false]) (b := n.b.toNat) (fun m hm => by rw [List.mem_singleton.1 hm]; exact hbb.symm) hne, List.append_nil]
            exact hoth b' hne
        · have hm' : m ∈ H.wt := a4 ▸ hm
          show (jbOf (answer H1 n.b.toNat).1 m.b.toNat).isSome = true
          by_cases hne : m.b.toNat = n.b.toNat
          · rw [hne, aj]; rfl
          · rw [ao _ hne]; exact h.wtj m hm'
        · show D x b' - came (answer H1 n.b.toNat).2 x b' = waits (answer H1 n.b.toNat).1.wt x b' + jobD (answer H1 n.b.toNat).1 x b'
          rw [a4, h.cnt x b', a2, came_cons, came_nil]
          by_cases hbe : b' = n.b
          · subst hbe
            have e0 : jobD (answer H1 n.b.toNat).1 x n.b = 0 := by
              have : jobD (answer H1 n.b.toNat).1 x ((n.b.toNat : Nat) : Int) = if true = false ∧ j.a.f = x then 1 else 0 := by rw [jobD_at, aj]; rfl
              rw [hbb] at this
              rw [this, if_neg (fun e => by cases e.1)]
            rw [e0, hjd x]
            have ec : cameB x n.b (dataN j.a.f (n.b.toNat : Int) (gets (enOf H1 n.b.toNat) j.a.k j.a.f).2.1 (rowOf H1 n.b.toNat)) = decide (j.a.f = x) := by
              unfold cameB
              rw [d1, d3, d4, hbb]; simp
            rw [ec]
            by_cases hx : j.a.f = x
            · rw [decide_eq_true hx, if_pos ⟨hd, hx⟩, if_pos rfl]; omega
            · rw [decide_eq_false hx, if_neg (fun e => hx e.2)]; simp
          · have ec : cameB x b' (dataN j.a.f (n.b.toNat : Int) (gets (enOf H1 n.b.toNat) j.a.k j.a.f).2.1 (rowOf H1 n.b.toNat)) = false := by
              unfold cameB
              rw [d4, hbb, decide_eq_false (p := n.b = b') (fun e => hbe e.symm)]; simp
            rw [ec, jobD_other (H := H) (H' := (answer H1 n.b.toNat).1) ao x (by omega)]
            simp
        · show Phi (answer H1 n.b.toNat).1 + 17 * (answer H1 n.b.toNat).1.wt.length + 1 ≤ Phi H + 17 * H.wt.length
          rw [a4]
          omega
/-- Where nothing is on its way all was answered. -/
theorem floor_end {c : Cfg} {H : Hm} {D : Int → Int → Int} (h : FI c H [] D) : (∀ b, jbOf H b = none) ∧ H.wt = [] ∧ ∀ x b, D x b = 0 := by
  have hj : ∀ b, jbOf H b = none := fun b => by
    have hm := h.w.blk b
    cases e : jbOf H b with
    | none => rfl
    | some j =>
      rw [e] at hm
      cases hd : j.d
      · obtain ⟨a1, a2, a3⟩ := hm.2 hd
        have : (ones j.w).map (fun (x : Nat) => (x : Int)) = [] := a3.symm.eq_nil
        exact absurd (List.map_eq_nil_iff.1 this) (ones_some a1 (h.w.inv.jobs _ j (jbOf_get e)).w)
      · obtain ⟨n, hn, _⟩ := hm.1 hd
        cases hn
  have hw : H.wt = [] := by
    cases e : H.wt with
    | nil => rfl
    | cons n l =>
      have := h.wtj n (by rw [e]; simp)
      rw [hj] at this; cases this
  refine ⟨hj, hw, fun x b => ?_⟩
  rw [h.cnt x b, hw]
  have : jobD H x b = 0 := by unfold jobD; rw [hj]; split <;> rfl
  rw [this]; rfl
/-- A new home, and nothing on its way. -/
theorem floor_new (c : Cfg) (mm : List (List Int)) (hc : c.may) (hl : mm.length = c.bl.toNat) (hr : ∀ r ∈ mm, r.length = 16) : FI c (new c mm) [] (fun _ _ => 0) ∧ Pot (new c mm) = 0 := by
  have hj : ∀ b, jbOf (new c mm) b = none := fun b => by
    unfold jbOf new
    rw [List.getD_eq_getElem?_getD]
    show ((List.replicate c.data.toNat (none : Option Jb))[b]?).getD none = none
    rw [List.getElem?_replicate]
    split <;> rfl
  refine ⟨⟨⟨new_inv c mm hc hl hr, fun e he i hi => ?_, fun n hn => (by cases hn), fun b => (by rw [hj]; exact rfl)⟩, fun n hn => (by cases hn), fun x b => ?_⟩, ?_⟩
  · rw [(List.mem_replicate.1 he).2] at hi
    have : wi free.s free.o = 0 := by decide
    rw [this, Nat.zero_testBit] at hi; cases hi
  · have : jobD (new c mm) x b = 0 := by unfold jobD; rw [hj]; split <;> rfl
    rw [this]; rfl
  · unfold Pot Phi new
    have : ∀ k, ((List.replicate k (none : Option Jb)).map phi).sum = 0 := fun k => by
      induction k with
      | zero => rfl
      | succ k ih => rw [List.replicate_succ, List.map_cons, List.sum_cons, ih]; rfl
    show ((List.replicate c.data.toNat (none : Option Jb)).map phi).sum + 17 * 0 = 0
    rw [this]
end Go.Proofs.YtenhdijbcdkfbaaDoor.hh
