/-
  What New answers, and the cache that it makes: contracts. Condition: the table of bounds lies in its variable as the program's text has it; the bounds that each theorem names.
-/
import Derived.Test.YtjbapfjeildfoaaDoorC8
import Derived.WalkSpells
namespace Go.Proofs.YtjbapfjeildfoaaDoor.kk
open Go Go.ChangeShapes Go.WideShapes Go.ChangeAt Go.RowKit Go.Shelf
set_option linter.unusedVariables false

/-- make of n zero things of any size. -/
theorem make_many {P : Program} {w : World} {ops : Array Oper} {rest : List Oper} {a : Act} {Q : Exit → Act → World → Prop} {dst : Option Tmp} {ty : TypeId} {pos : String} {after : Array Edge}
    (t e : TypeId) (i : TypeInfo) (z : Value) (l c : Tmp) (n size : Nat) (ht : P.underlying t = some (.slice e)) (hi : P.info? e = some i) (hz : i.zero = some z) (h1 : i.size = size) (hc : z.cells.size = size) (h0 : 0 < size)
    (el : a.eval (.tmp l) = .int .i64 (n : Int)) (ec : a.eval (.tmp c) = .int .i64 (n : Int)) (hb : (i.bytes : Int) * (n : Int) ≤ 281474976710656) (h63 : (n : Int) ≤ 9223372036854775807)
    (h : ∀ cs : Array Value, cs.size = n * size → (∀ (j k : Nat) v, j < n → z.cells[k]? = some v → cs[j * size + k]? = some v) → wpList P ops Q rest (a.put dst (.slice (some ⟨w.heap.size, 0, none⟩) n n)) (w.alloc (.cells cs e))) :
    wpList P ops Q (⟨dst, .makeSlice t (.tmp l) (.tmp c), ty, pos, after, none⟩ :: rest) a w := by
  refine wpList_plain rfl fun K hK' => ?_
  have hrun := run_make (P := P) w t e i z ht hi hz .i64 .i64 n n (by omega) (Int.le_refl _) hb h63
  rw [Int.toNat_natCast, h1] at hrun
  unfold Oper.wp
  simp [execOp, el, ec, hrun, Result.andThen]
  refine hK' _ _ (h _ (by rw [size_madeCells]) fun j k v hj hk => ?_)
  have hks : k < size := by have := (Array.getElem?_eq_some_iff.1 hk).1; omega
  have hjk : j * size + k < n * size := by
    have : (j + 1) * size ≤ n * size := Nat.mul_le_mul_right _ hj
    rw [Nat.add_mul, Nat.one_mul] at this
    omega
  unfold madeCells
  rw [Array.getElem?_map, Array.getElem?_range, if_pos hjk]
  simp only [Option.map_some, hc]
  rw [Nat.mul_comm j size, Nat.mul_add_mod, Nat.mod_eq_of_lt hks, getElem!_def, hk]

theorem info69 : (Tryd.prog.info? 69).map (fun i => (i.zero, i.size, i.bytes)) = some (some (.agg #[.slice none 0 0, .int .u8 0]), 2, 32) := by kernel_rfl
theorem info36z : (Tryd.prog.info? 36).map (fun i => (i.zero, i.size, i.bytes)) = some (some (.agg (la zl)), 18, 80) := by kernel_rfl

/-- The sets, of which the first ones have their rows. -/
structure Mak (w1 wr : World) (G : Nat) (gr : List Nat) (S W : Nat) : Prop where
  grown : w1.grownBy wr none
  new : w1.heap.size ≤ G
  blk : ∃ cur, wr.heap[G]? = some (.cells cur 69 (0, 0)) ∧ cur.size = S * 2 ∧ (∀ (j : Nat) q, gr[j]? = some q → cur[j * 2]? = some (.slice (some ⟨q, 0, none⟩) W W)) ∧ (∀ j, j < S → cur[j * 2 + 1]? = some (.int .u8 0))
  rows : ∀ (j : Nat) q, gr[j]? = some q → G < q ∧ RowAt wr q (List.replicate W zl)
  inj : ∀ (i j : Nat) q, gr[i]? = some q → gr[j]? = some q → i = j
theorem Mak.put {w1 wr : World} {G S W : Nat} {gr : List Nat} (h : Mak w1 wr G gr S W) (hs : gr.length < S) (cs : Array Value) (hcs : cs.size = W * 18) (hz : ∀ (j k : Nat) v, j < W → (la zl)[k]? = some v → cs[j * 18 + k]? = some v) :
    (wr.alloc (.cells cs 36)).frozen? ⟨G, gr.length * 2, none⟩ = false ∧ (∃ u, (wr.alloc (.cells cs 36)).cell? ⟨G, gr.length * 2, none⟩ = some u) ∧ Mak w1 ((wr.alloc (.cells cs 36)).setCell ⟨G, gr.length * 2, none⟩ (.slice (some ⟨wr.heap.size, 0, none⟩) W W)) G (gr ++ [wr.heap.size]) S W := by
  obtain ⟨cur, hG, h2, h3, h4⟩ := h.blk
  have hltG := lt_of hG
  have hG' : (wr.alloc (.cells cs 36)).heap[G]? = some (.cells cur 69 (0, 0)) := (Below.heap_alloc _ _ _ hltG).trans hG
  have hgr : w1.grownBy (wr.alloc (.cells cs 36)) none := grown_alloc h.grown _
  have hset := grown_setCell (wr.alloc (.cells cs 36)) G (gr.length * 2) (.slice (some ⟨wr.heap.size, 0, none⟩) W W)
  refine ⟨frozen_of_row _ _ _ _ _ hG', ⟨_, (cell_of_row _ _ _ _ _ _ hG').trans (Array.getElem?_eq_getElem (by omega))⟩, ⟨?_, h.new, ⟨_, blk_setCell _ hG', by simp [h2], fun j q hq => ?_, fun j hj => ?_⟩, fun j q hq => ?_, fun i j q hi hj => ?_⟩⟩
  · exact ⟨hset.os.trans hgr.os, hset.tape.trans hgr.tape, hset.output.trans hgr.output, Nat.le_trans hgr.size hset.size, fun k hk hn => (hset.block k (Nat.lt_of_lt_of_le hk hgr.size) (by have := h.new; simp; omega)).trans (hgr.block k hk hn)⟩
  · rw [Array.set!_eq_setIfInBounds, Array.getElem?_setIfInBounds]
    by_cases hjl : j = gr.length
    · subst hjl
      rw [if_pos rfl, if_pos (by omega)]
      rw [List.getElem?_append_right (Nat.le_refl _)] at hq
      simp at hq
      subst hq; rfl
    · rw [if_neg (by omega)]
      have hlt : j < (gr ++ [wr.heap.size]).length := (List.getElem?_eq_some_iff.1 hq).1
      rw [List.getElem?_append_left (by simp at hlt; omega)] at hq
      exact h3 j q hq
  · rw [Array.set!_eq_setIfInBounds, Array.getElem?_setIfInBounds, if_neg (by omega)]
    exact h4 j hj
  · by_cases hjl : j = gr.length
    · subst hjl
      rw [List.getElem?_append_right (Nat.le_refl _)] at hq
      simp at hq
      subst hq
      refine ⟨hltG, ?_⟩
      have hb : ((wr.alloc (.cells cs 36)).setCell ⟨G, gr.length * 2, none⟩ (.slice (some ⟨wr.heap.size, 0, none⟩) W W)).heap[wr.heap.size]? = some (.cells cs 36 (0, 0)) := (heap_setCell_other' _ _ _ _ (by simp; omega)).trans (heap_alloc_new _ _)
      refine ⟨⟨_, hb⟩, fun j l hl i v hv => ?_⟩
      rw [List.getElem?_replicate] at hl
      split at hl
      · cases hl
        exact (cell_of_row _ _ _ _ _ _ hb).trans (hz j i v (by assumption) (by simpa [la] using hv))
      · cases hl
    · have hlt : j < (gr ++ [wr.heap.size]).length := (List.getElem?_eq_some_iff.1 hq).1
      rw [List.getElem?_append_left (by simp at hlt; omega)] at hq
      obtain ⟨r1, r2⟩ := h.rows j q hq
      exact ⟨r1, r2.same ((hset.block q (by have := r2.lt; simp; omega) (by simp; omega)).trans (Below.heap_alloc _ _ _ r2.lt))⟩
  · rw [List.getElem?_append] at hi hj
    split at hi <;> split at hj
    · exact h.inj i j q hi hj
    · have h1 := (h.rows i q hi).2.lt
      have h2 := List.mem_of_getElem? hj
      simp at h2; omega
    · have h1 := (h.rows j q hj).2.lt
      have h2 := List.mem_of_getElem? hi
      simp at h2; omega
    · have h1 := (List.getElem?_eq_some_iff.1 hi).1
      have h2 := (List.getElem?_eq_some_iff.1 hj).1
      simp at h1 h2; omega

theorem new_no (c : Cfg) (w : World) (hT : Tab w) (hm : ¬ c.may) : Calls Tryd.prog 8 #[.agg c.cells] w fun e w' => e = .returned (.tuple #[.pointer none, .int .i64 2]) ∧ w.grownBy w' none := by
  have HG0 : Hid (w.grownBy (w.alloc (.cells c.cells 27)) none) := Lib.hid (grown_alloc (grown_refl _ _) _)
  have HM := Lib.hid (may_any c (w.alloc (.cells c.cells 27)) (hT.grown HG0.out))
  rw [yes_not hm] at HM
  clear hT hm
  unfold Cfg.cells at *
  go_enter Tryd.func8, Tryd.ntmps8
  go_wp2_with (first
    | (go_at_call 28; ((with_reducible refine HM.out.mono ?_); rintro e w1 ⟨rfl, hg1⟩; have HG1 := Lib.hid hg1; clear hg1)))
  go_ret2
  exact ⟨rfl, grown_trans HG0.out HG1.out⟩

/-- A cache all of whose ways are free. -/
def empty (c : Cfg) : List St := List.replicate c.se.toNat (List.replicate c.wa.toNat zl, 0)
theorem Mak.cac {w1 wr : World} {G : Nat} {gr : List Nat} {c : Cfg} (hm : c.may) (h : Mak w1 wr G gr c.se.toNat c.wa.toNat) (hl : gr.length = c.se.toNat) :
    Cac (wr.alloc (.cells (c.cells ++ #[.slice (some ⟨G, 0, none⟩) c.se.toNat c.se.toNat]) 71)) ⟨wr.heap.size, G, c.se.toNat, gr.map fun q => (q, c.wa.toNat)⟩ c (empty c) := by
  obtain ⟨cur, hG, h2, h3, h4⟩ := h.blk
  have hs := hm.sets
  have hw := hm.ways
  have hG' : (wr.alloc (.cells (c.cells ++ #[.slice (some ⟨G, 0, none⟩) c.se.toNat c.se.toNat]) 71)).heap[G]? = some (.cells cur 69 (0, 0)) := (Below.heap_alloc _ _ _ (lt_of hG)).trans hG
  have hget : ∀ (i : Nat) p, (empty c)[i]? = some p → i < c.se.toNat ∧ p = (List.replicate c.wa.toNat zl, 0) := fun i p hp => by
    unfold empty at hp
    rw [List.getElem?_replicate] at hp
    split at hp
    · exact ⟨by assumption, by cases hp; rfl⟩
    · cases hp
  have hgr : ∀ (i : Nat) q, (gr.map fun q => (q, c.wa.toNat))[i]? = some q → gr[i]? = some q.1 ∧ q.2 = c.wa.toNat := fun i q hq => by
    rw [List.getElem?_map, Option.map_eq_some_iff] at hq
    obtain ⟨a, ha, rfl⟩ := hq
    exact ⟨ha, rfl⟩
  refine ⟨?_, ⟨cur, hG'⟩, by simp [empty, hl], fun i p q hp hq => ?_, fun i p hp => ?_, fun i p q hp hq => ?_, fun i j q q' hq hq' e => ?_, by simp [empty]; omega, fun p hp => ?_, fun p hp => ?_, hm⟩
  · have := heap_alloc_new wr (.cells (c.cells ++ #[.slice (some ⟨G, 0, none⟩) c.se.toNat c.se.toNat]) 71)
    rw [show (empty c).length = c.se.toNat by simp [empty]]
    exact this
  · obtain ⟨_, rfl⟩ := hget i p hp
    obtain ⟨hq1, hq2⟩ := hgr i q hq
    rw [List.length_replicate, hq2]
    exact (cell_of_row _ _ _ _ _ _ hG').trans (h3 i q.1 hq1)
  · obtain ⟨hi, rfl⟩ := hget i p hp
    exact (cell_of_row _ _ _ _ _ _ hG').trans (h4 i hi)
  · obtain ⟨_, rfl⟩ := hget i p hp
    have hr := (h.rows i q.1 (hgr i q hq).1).2
    exact hr.same (Below.heap_alloc _ _ _ hr.lt)
  · have h1 := (hgr i q hq).1
    have h2 := (hgr j q' hq').1
    rw [← e] at h2
    exact h.inj i j _ h1 h2
  · rw [List.eq_of_mem_replicate hp, List.length_replicate]; omega
  · rw [List.eq_of_mem_replicate hp]; exact (by decide : (0 : Nat) < 256)

set_option maxHeartbeats 1000000 in
theorem new_ok (c : Cfg) (w : World) (hT : Tab w) (hm : c.may) : Calls Tryd.prog 8 #[.agg c.cells] w fun e w' => ∃ K : Loc, e = .returned (.tuple #[.pointer (some ⟨K.b, 0, none⟩), .int .i64 0]) ∧ Cac w' K c (empty c) ∧ w.grownBy w' none ∧ ∀ k, K.any k → w.heap.size ≤ k := by
  have HG0 : Hid (w.grownBy (w.alloc (.cells c.cells 27)) none) := Lib.hid (grown_alloc (grown_refl _ _) _)
  have HA := Lib.hid (cfg_at w c)
  have HM := Lib.hid (may_any c (w.alloc (.cells c.cells 27)) (hT.grown HG0.out))
  rw [yes_of hm] at HM
  have hs := hm.sets
  have hw := hm.ways
  obtain ⟨S, hS⟩ : ∃ S, S = c.se.toNat := ⟨_, rfl⟩
  obtain ⟨W, hW⟩ : ∃ W, W = c.wa.toNat := ⟨_, rfl⟩
  have eS : c.se = (S : Int) := by omega
  have eW : c.wa = (W : Int) := by omega
  have hS16 : 1 ≤ S ∧ S ≤ 16 := by omega
  have hW4 : 1 ≤ W ∧ W ≤ 4 := by omega
  have HFIN : Hid (∀ (w1 wr : World) G gr, Mak w1 wr G gr S W → gr.length = S → Cac (wr.alloc (.cells (c.cells ++ #[.slice (some ⟨G, 0, none⟩) S S]) 71)) ⟨wr.heap.size, G, S, gr.map fun q => (q, W)⟩ c (empty c)) := Lib.hid fun w1 wr G gr h hl => by
    rw [hS, hW] at *
    exact Mak.cac hm h hl
  obtain ⟨i69, hi69, hii⟩ := Option.map_eq_some_iff.1 info69
  simp at hii
  obtain ⟨z69, s69, y69⟩ := hii
  obtain ⟨i36, hi36, hii⟩ := Option.map_eq_some_iff.1 info36z
  simp at hii
  obtain ⟨z36, s36, y36⟩ := hii
  have HI69 := Lib.hid hi69
  have HZ69 := Lib.hid z69
  have HS69 := Lib.hid s69
  have HY69 := Lib.hid y69
  have HI36 := Lib.hid hi36
  have HZ36 := Lib.hid z36
  have HS36 := Lib.hid s36
  have HY36 := Lib.hid y36
  have HES := Lib.hid eS
  have HEW := Lib.hid eW
  clear hT hm hs hw hi69 z69 s69 y69 hi36 z36 s36 y36 hS hW eS eW
  unfold Cfg.cells at *
  go_enter Tryd.func8, Tryd.ntmps8
  go_wp2_with (first
    | (go_at_call 28; ((with_reducible refine HM.out.mono ?_); rintro e w1 ⟨rfl, hg1⟩; obtain ⟨c0, c1, c2, c3, c4, c5, c6, c7⟩ := HA.out.grown hg1; rw [HES.out] at c1; rw [HEW.out] at c2; have HA1 := Lib.hid (HA.out.grown hg1); have HG1 := Lib.hid (grown_trans HG0.out hg1); clear hg1))
    | ((with_reducible refine make_many 67 69 i69 (.agg #[.slice none 0 0, .int .u8 0]) 10 10 S 2 Tryd.underlying67 HI69.out HZ69.out HS69.out ?_ ?_ ?_ ?_ ?_ ?_ ?_); (rfl); (decide); (rfl); (rfl); (rw [HY69.out]; omega); (omega); intro cs hcs hz; have HCS := Lib.hid (And.intro hcs hz); clear hcs hz))
  obtain ⟨G, hG⟩ : ∃ G, G = w1.heap.size := ⟨_, rfl⟩
  have HK0 : Hid (Mak w1 (w1.alloc (.cells cs 69)) G [] S W) := Lib.hid ⟨grown_alloc (grown_refl _ _) _, by omega, ⟨cs, by rw [hG]; exact heap_alloc_new _ _, HCS.out.1, fun j q hq => by simp at hq, fun j hj => HCS.out.2 j 1 _ hj rfl⟩, fun j q hq => by simp at hq, fun i j q hq => by simp at hq⟩
  rw [← hG]
  clear hG c0 c1 c2 c3 c4 c5 c6 c7
  go_loopw [14] (fun i wr => ∃ (k : Nat) (gr : List Nat), k ≤ S ∧ i = .int .i64 (k : Int) ∧ gr.length = k ∧ Mak w1 wr G gr S W) (fun i _ => S - (intOf i).toNat)
  case atStart => exact ⟨0, [], Nat.zero_le _, rfl, rfl, HK0.out⟩
  case round =>
    obtain ⟨k, gr, hk, rfl, hgl, hmk⟩ := hrel
    have HMK := Lib.hid hmk
    have HA2 := Lib.hid (HA1.out.grown hmk.grown)
    have HGL := Lib.hid hgl
    clear HK0 hmk
    by_cases hlt : k < S
    · have HB : Hid (∀ (cs : Array Value), cs.size = W * 18 → (∀ (j k : Nat) v, j < W → (la zl)[k]? = some v → cs[j * 18 + k]? = some v) → ((wr.alloc (.cells cs 36)).frozen? ⟨G, k * 2, none⟩ = false ∧ (∃ u, (wr.alloc (.cells cs 36)).cell? ⟨G, k * 2, none⟩ = some u)) ∧ Mak w1 ((wr.alloc (.cells cs 36)).setCell ⟨G, k * 2, none⟩ (.slice (some ⟨wr.heap.size, 0, none⟩) W W)) G (gr ++ [wr.heap.size]) S W) := Lib.hid fun cs h1 h2 => by
        have h3 := HMK.out.put (by omega) cs h1 h2
        rw [hgl] at h3
        exact ⟨⟨h3.1, h3.2.1⟩, h3.2.2⟩
      obtain ⟨c0, c1, c2, c3, c4, c5, c6, c7⟩ := HA2.out
      rw [HEW.out] at c2
      clear hgl
      go_wp2_with (first
        | ((with_reducible refine make_many 53 36 i36 (.agg (la zl)) 20 20 W 18 Tryd.underlying53 HI36.out HZ36.out HS36.out ?_ ?_ ?_ ?_ ?_ ?_ ?_); (rfl); (decide); (rfl); (rfl); (rw [HY36.out]; omega); (omega); intro cs2 hcs hz; have HM3 := Lib.hid (HB.out cs2 hcs hz).2; obtain ⟨f0, u0, d0⟩ := (HB.out cs2 hcs hz).1; clear hcs hz))
      go_roundw
      case rel => exact ⟨k + 1, gr ++ [wr.heap.size], by omega, by go_num, by rw [List.length_append, HGL.out]; rfl, HM3.out⟩
      case measure => simp [intOf]; omega
    · obtain rfl : k = S := by omega
      obtain ⟨c0, c1, c2, c3, c4, c5, c6, c7⟩ := HA2.out
      have HF := Lib.hid (HFIN.out w1 wr G gr HMK.out HGL.out)
      clear hgl
      go_wp2_with fail
      go_ret2
      refine ⟨_, rfl, HF.out, grown_alloc (grown_trans HG1.out HMK.out.grown) _, fun k' hk' => ?_⟩
      have h1 := HG1.out.size
      have h2 := HMK.out.grown.size
      have h3 := HMK.out.new
      rcases hk' with e1 | e1 | ⟨q, hq, rfl⟩
      · have e2 : k' = wr.heap.size := e1
        omega
      · have e2 : k' = G := e1
        omega
      · simp at hq
        obtain ⟨a, ha, rfl⟩ := hq
        obtain ⟨j, hj⟩ := List.getElem?_of_mem ha
        have := (HMK.out.rows j a hj).1
        show w.heap.size ≤ a; omega
end Go.Proofs.YtjbapfjeildfoaaDoor.kk
