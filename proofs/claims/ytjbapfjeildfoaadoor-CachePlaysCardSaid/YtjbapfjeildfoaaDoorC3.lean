/-
  Where a cache lies and what it holds; where, use, victim: contracts. Condition: the table of bounds lies in its variable as the program's text has it; the bounds that each theorem names.
-/
import Derived.Test.YtjbapfjeildfoaaDoorC2
namespace Go.Proofs.YtjbapfjeildfoaaDoor.kk
open Go Go.ChangeShapes Go.WideShapes Go.ChangeAt Go.RowKit Go.Shelf
set_option linter.unusedVariables false

/-- The blocks of a cache: its own, its sets', its rows' (with their capacities). -/
structure Loc where
  b : Nat
  gs : Nat
  cap : Nat
  gr : List (Nat × Nat)
/-- A set: its ways, its memory. -/
abbrev St := List Ln × Nat

structure Cac (w : World) (K : Loc) (c : Cfg) (ss : List St) : Prop where
  blk : w.heap[K.b]? = some (.cells (c.cells ++ #[.slice (some ⟨K.gs, 0, none⟩) ss.length K.cap]) 71 (0, 0))
  sets : ∃ cur, w.heap[K.gs]? = some (.cells cur 69 (0, 0))
  grl : K.gr.length = ss.length
  row : ∀ (i : Nat) p q, ss[i]? = some p → K.gr[i]? = some q → w.cell? ⟨K.gs, i * 2, none⟩ = some (.slice (some ⟨q.1, 0, none⟩) p.1.length q.2)
  mem : ∀ (i : Nat) p, ss[i]? = some p → w.cell? ⟨K.gs, i * 2 + 1, none⟩ = some (.int .u8 (p.2 : Int))
  rows : ∀ (i : Nat) p q, ss[i]? = some p → K.gr[i]? = some q → RowAt w q.1 p.1
  inj : ∀ (i j : Nat) q q', K.gr[i]? = some q → K.gr[j]? = some q' → q.1 = q'.1 → i = j
  len : (ss.length : Int) = c.se
  wid : ∀ p ∈ ss, (p.1.length : Int) = c.wa
  mlt : ∀ p ∈ ss, p.2 < 256
  may : c.may

theorem Cfg.may.ways {c : Cfg} (h : c.may) : c.wa = 1 ∨ c.wa = 2 ∨ c.wa = 4 := by
  have h2 := h.1 2 (by omega)
  have hbo := hb_bounds h2
  have hlo : lows.getD 2 0 = 1 := rfl
  have hhi : highs.getD 2 0 = 4 := rfl
  have hf : c.list.getD 2 0 = c.wa := rfl
  rw [hlo, hhi, hf] at hbo
  have h3 : c.wa ≠ 3 := by
    intro e
    rw [show c.list.getD 2 0 = c.wa from rfl, e] at h2
    revert h2; decide +kernel
  omega
/-- The set that a block goes into. -/
def setOf (c : Cfg) (b : Int) : Nat := if b < 0 then 0 else (b % c.se).toNat
theorem Cfg.may.set_lt {c : Cfg} (h : c.may) (b : Int) : (setOf c b : Int) < c.se := by
  have hs := h.sets
  unfold setOf
  split
  · simp; omega
  · have h1 := Int.emod_lt_of_pos b (show 0 < c.se by omega)
    have h2 := Int.emod_nonneg b (show c.se ≠ 0 by omega)
    omega
theorem set_any (c : Cfg) (b : Int) (w : World) (hT : Tab w) (hm : c.may) : Calls Tryd.prog 27 #[.agg c.cells, .int .i64 b] w fun e w' => e = .returned (.int .i64 (setOf c b : Nat)) ∧ w.grownBy w' none := by
  by_cases h : b < 0
  · refine (set_neg c b w hT hm h).mono ?_
    rintro e w' ⟨rfl, hg⟩
    exact ⟨by rw [setOf, if_pos h]; rfl, hg⟩
  · refine (set_in c b w hT hm (by omega)).mono ?_
    rintro e w' ⟨rfl, hg⟩
    have h2 := Int.emod_nonneg b (show c.se ≠ 0 by have := hm.sets; omega)
    exact ⟨by rw [setOf, if_neg h]; exact ret_i64 (by omega), hg⟩

section
variable {w : World} {K : Loc} {c : Cfg} {ss : List St}
theorem Cac.at (h : Cac w K c ss) (b : Int) : ∃ p q, ss[setOf c b]? = some p ∧ K.gr[setOf c b]? = some q := by
  have h1 := h.may.set_lt b
  have h2 := h.len
  have hl : setOf c b < ss.length := by omega
  exact ⟨_, _, List.getElem?_eq_getElem hl, List.getElem?_eq_getElem (by rw [h.grl]; exact hl)⟩
theorem Cac.cfg (h : Cac w K c ss) : CfgAt w K.b c := by
  constructor <;> exact (cell_of_row _ _ _ _ _ _ h.blk).trans rfl
theorem Cac.slice (h : Cac w K c ss) : w.cell? ⟨K.b, 8, none⟩ = some (.slice (some ⟨K.gs, 0, none⟩) ss.length K.cap) := (cell_of_row _ _ _ _ _ _ h.blk).trans rfl
theorem Cac.wid4 (h : Cac w K c ss) {p : St} (hp : p ∈ ss) : p.1.length ≤ 4 ∧ 1 ≤ p.1.length := by
  have := h.wid p hp
  have := h.may.ways
  omega
theorem Cac.ltb (h : Cac w K c ss) : K.b < w.heap.size := lt_of h.blk
theorem Cac.ltg (h : Cac w K c ss) : K.gs < w.heap.size := by obtain ⟨_, h⟩ := h.sets; exact lt_of h
/-- The blocks that a call on the cache may write. -/
def Loc.own (K : Loc) (k : Nat) : Prop := k = K.gs ∨ ∃ q ∈ K.gr, q.1 = k
/-- Any block of the cache. -/
def Loc.any (K : Loc) (k : Nat) : Prop := k = K.b ∨ K.own k
theorem Cac.rowOf (h : Cac w K c ss) {q : Nat × Nat} (hq : q ∈ K.gr) : ∃ cur, w.heap[q.1]? = some (.cells cur 36 (0, 0)) := by
  obtain ⟨i, hi⟩ := List.getElem?_of_mem hq
  have hl := (List.getElem?_eq_some_iff.1 hi).1
  obtain ⟨p, hp⟩ : ∃ p, ss[i]? = some p := ⟨_, List.getElem?_eq_getElem (by rw [← h.grl]; exact hl)⟩
  exact (h.rows i p q hp hi).blk
theorem Cac.same (h : Cac w K c ss) {w' : World} (hk : ∀ k, K.any k → w'.heap[k]? = w.heap[k]?) : Cac w' K c ss := by
  have hs := hk K.gs (.inr (.inl rfl))
  have hr : ∀ q ∈ K.gr, w'.heap[q.1]? = w.heap[q.1]? := fun q hq => hk _ (.inr (.inr ⟨q, hq, rfl⟩))
  refine ⟨(hk K.b (.inl rfl)).trans h.blk, ?_, h.grl, fun i p q hp hq => ?_, fun i p hp => ?_, fun i p q hp hq => (h.rows i p q hp hq).same (hr q (List.mem_of_getElem? hq)), h.inj, h.len, h.wid, h.mlt, h.may⟩
  · obtain ⟨cur, hc⟩ := h.sets
    exact ⟨cur, hs.trans hc⟩
  · rw [World.cell?_of_block (w := w) (w' := w') (a := ⟨K.gs, i * 2, none⟩) hs]; exact h.row i p q hp hq
  · rw [World.cell?_of_block (w := w) (w' := w') (a := ⟨K.gs, i * 2 + 1, none⟩) hs]; exact h.mem i p hp
theorem Cac.lt (h : Cac w K c ss) {k : Nat} (hk : K.any k) : k < w.heap.size := by
  rcases hk with rfl | rfl | ⟨q, hq, rfl⟩
  · exact h.ltb
  · exact h.ltg
  · obtain ⟨_, hc⟩ := h.rowOf hq; exact lt_of hc
theorem Cac.grown (h : Cac w K c ss) {w' : World} (hg : w.grownBy w' none) : Cac w' K c ss := h.same fun k hk => hg.block k (h.lt hk) (by simp)
end

/-- The way of a block's line, as where tells it. -/
def wayOf (ls : List Ln) (b : Int) : Int := ix (isOf b) ls
theorem info9 : (c : Cfg) → (v : Value) → (c.cells ++ #[v]).size = 9 := fun _ _ => rfl

set_option maxHeartbeats 2000000 in
theorem where_any (K : Loc) (c : Cfg) (ss : List St) (b : Int) (p : St) (w : World) (hC : Cac w K c ss) (hT : Tab w) (hp : ss[setOf c b]? = some p) :
    Calls Tryd.prog 31 #[.pointer (some ⟨K.b, 0, none⟩), .int .i64 b] w fun e w' => e = .returned (.tuple #[.pointer (some ⟨K.gs, setOf c b * 2, none⟩), .int .i64 (wayOf p.1 b)]) ∧ w.grownBy w' none := by
  obtain ⟨q, hq⟩ : ∃ q, K.gr[setOf c b]? = some q := by
    obtain ⟨_, q, _, hq⟩ := hC.at b
    exact ⟨q, hq⟩
  obtain ⟨w0, hw0⟩ : ∃ w0, w0 = w.alloc (.cells #[.int .i64 b] 3) := ⟨_, rfl⟩
  have HG0 : Hid (w.grownBy w0 none) := Lib.hid (hw0 ▸ grown_alloc (grown_refl _ _) _)
  have HC := Lib.hid (hC.grown HG0.out)
  have HB : Hid (w0.cell? ⟨w.heap.size, 0, none⟩ = some (.int .i64 b)) := Lib.hid (by rw [hw0]; exact (cell_of_row _ _ _ _ _ _ (heap_alloc_new _ _)).trans rfl)
  have HW0 : Hid (w.alloc (.cells #[.int .i64 b] 3) = w0) := Lib.hid hw0.symm
  have HS : Hid (∀ w', w0.grownBy w' none → Calls Tryd.prog 27 #[.agg c.cells, .int .i64 b] w' fun e w'' => e = .returned (.int .i64 (setOf c b : Nat)) ∧ w'.grownBy w'' none) := Lib.hid fun w' hg => set_any c b w' (hT.grown (grown_trans HG0.out hg)) hC.may
  have hk : setOf c b < ss.length := (List.getElem?_eq_some_iff.1 hp).1
  have HP := Lib.hid hp
  have HQ := Lib.hid hq
  have HMEM : Hid (p ∈ ss) := Lib.hid (List.mem_of_getElem? hp)
  have HX : Hid (∀ w1, w0.grownBy w1 none → Calls Tryd.prog 49 #[.pointer (some ⟨K.gs, setOf c b * 2, none⟩), .func (.func 50) #[] #[.pointer (some ⟨w.heap.size, 0, none⟩)]] w1 fun e w' => e = .returned (.int .i64 (wayOf p.1 b)) ∧ w1.grownBy w' none) := Lib.hid fun w1 hg => by
    have hC1 := HC.out.grown hg
    exact first_any (isOf b) 50 _ enters50 K.gs (setOf c b * 2) q.1 q.2 _ p.1 w1 rfl (hC1.row _ p q HP.out HQ.out) (hC1.rows _ p q HP.out HQ.out) (hC1.wid4 HMEM.out).1
      (fun W l hW => where1_any l w.heap.size b W ((grown_trans hg hW).cell HB.out (by simp)))
  have HL : Hid (∀ w', w0.grownBy w' none → (w'.cell? ⟨K.b, 8, none⟩ = some (.slice (some ⟨K.gs, 0, none⟩) ss.length K.cap) ∧ w'.cell? ⟨w.heap.size, 0, none⟩ = some (.int .i64 b) ∧ w'.cell? ⟨K.b, 0, none⟩ = some (.int .i64 c.co) ∧ w'.cell? ⟨K.b, 1, none⟩ = some (.int .i64 c.se) ∧ w'.cell? ⟨K.b, 2, none⟩ = some (.int .i64 c.wa) ∧ w'.cell? ⟨K.b, 3, none⟩ = some (.int .i64 c.bl) ∧ w'.cell? ⟨K.b, 4, none⟩ = some (.int .i64 c.lo) ∧ w'.cell? ⟨K.b, 5, none⟩ = some (.int .i64 c.ba) ∧ w'.cell? ⟨K.b, 6, none⟩ = some (.int .i64 c.ne) ∧ w'.cell? ⟨K.b, 7, none⟩ = some (.int .i64 c.tr))) := Lib.hid fun w' hg => ⟨(HC.out.grown hg).slice, hg.cell HB.out (by simp), ((HC.out.grown hg).cfg).limbs⟩
  obtain ⟨n, hn⟩ : ∃ n, n = ss.length := ⟨_, rfl⟩
  rw [← hn] at hk HL
  obtain ⟨s, hs⟩ : ∃ s, s = setOf c b := ⟨_, rfl⟩
  rw [← hs] at hk HS HX ⊢
  have HD : Hid (w0.grownBy w0.drew none) := Lib.hid (grown_drew (grown_refl _ _))
  clear hC hT hp hq hw0 hn hs
  unfold Cfg.cells at HS
  go_enter Tryd.func31, Tryd.ntmps31
  go_wp2_with fail
  rw [HW0.out]
  go_region_held3 (fun w' => w'.cell? ⟨K.b, 8, none⟩ = some (.slice (some ⟨K.gs, 0, none⟩) n K.cap) ∧ w'.cell? ⟨w.heap.size, 0, none⟩ = some (.int .i64 b) ∧ w'.cell? ⟨K.b, 0, none⟩ = some (.int .i64 c.co) ∧ w'.cell? ⟨K.b, 1, none⟩ = some (.int .i64 c.se) ∧ w'.cell? ⟨K.b, 2, none⟩ = some (.int .i64 c.wa) ∧ w'.cell? ⟨K.b, 3, none⟩ = some (.int .i64 c.bl) ∧ w'.cell? ⟨K.b, 4, none⟩ = some (.int .i64 c.lo) ∧ w'.cell? ⟨K.b, 5, none⟩ = some (.int .i64 c.ba) ∧ w'.cell? ⟨K.b, 6, none⟩ = some (.int .i64 c.ne) ∧ w'.cell? ⟨K.b, 7, none⟩ = some (.int .i64 c.tr)) (first | exact HL.out _ HD.out | exact HL.out _ (grown_trans HD.out (by assumption)))
    (first | (go_at_call 27; ((with_reducible refine (HS.out _ HD.out).mono ?_); rintro e w5 ⟨rfl, hg5⟩; have HG5 := Lib.hid hg5)))
  have HG6 : Hid (w0.grownBy w5 none) := Lib.hid (grown_trans HD.out HG5.out)
  go_wp2_with (go_at_call 49; ((with_reducible refine (HX.out _ HG6.out).mono ?_); rintro e w6 ⟨rfl, hg6⟩; have HG7 := Lib.hid hg6; clear hg6))
  go_ret2
  exact ⟨rfl, grown_trans HG0.out (grown_trans HG6.out HG7.out)⟩
end Go.Proofs.YtjbapfjeildfoaaDoor.kk
