/-
  The document's log: where it lies, and what its Room, At, Pop answer. No condition but the bounds that each theorem names.
-/
import Derived.Test.YtfjjmlmkpdpdfaaDoorPu
import Derived.Test.YtfjjmlmkpdpdfaaDoorSk
import Derived.Test.YtfjjmlmkpdpdfaaDoorMeC16
import Derived.CellFam
namespace Go.Proofs.YtfjjmlmkpdpdfaaDoor.ud
open Go Go.RowKit
open Go.Proofs.YtfjjmlmkpdpdfaaDoor.tt (Cfg Tab trip)
open Go.Proofs.YtfjjmlmkpdpdfaaDoor.pp (RMem Mem grown_refl grown_trans grown_alloc setW getW inn inb)
open Go.Proofs.YtfjjmlmkpdpdfaaDoor.sl (Sl flat)
set_option linter.unusedVariables false

theorem grown_drewN (w : World) (k : Nat) : w.grownBy (w.drewN k) none := ⟨rfl, rfl, rfl, Nat.le_refl _, fun _ _ _ => rfl⟩
theorem grown_setCell (w : World) (b o : Nat) (v : Value) : w.grownBy (w.setCell ⟨b, o, none⟩ v) (some b) :=
  ⟨rfl, rfl, rfl, by simp [World.setCell], fun k hk hn => Below.heap_setCell _ _ _ _ (by intro e; exact hn (by rw [e]))⟩

/-- An entry as cells: the address, the word. -/
def et (x : Int × Int) : List Value := [.int .u32 x.1, .int .u32 x.2]
theorem et_len (x : Int × Int) : (et x).length = 2 := rfl
theorem et_one (x : Int × Int) : ∀ v ∈ et x, v.oneCell' = true := by
  intro v hv
  simp [et] at hv
  rcases hv with rfl | rfl <;> rfl

/-- The document's log lies at b: of the plan c, of core, with the entries es in the slice v. -/
structure RLog (w : World) (b : Nat) (v : Value) (c : Cfg) (core : Int) (es : List (Int × Int)) : Prop where
  blk : w.heap[b]? = some (.cells #[.int .i64 c.co, .int .i64 c.se, .int .i64 c.wa, .int .i64 c.bl, .int .i64 c.lo, .int .i64 c.ba, .int .i64 c.ne, .int .i64 c.tr, .int .i64 core, v] 53 (0, 0))
  sl : Sl w 71 2 v es.length (flat et es)
section
variable {w w' : World} {b : Nat} {v : Value} {c : Cfg} {core : Int} {es : List (Int × Int)}
theorem RLog.lt (h : RLog w b v c core es) : b < w.heap.size := (Array.getElem?_eq_some_iff.1 h.blk).1
theorem RLog.grown (h : RLog w b v c core es) (hg : w.grownBy w' none) : RLog w' b v c core es := ⟨(hg.block b h.lt (by simp)).trans h.blk, h.sl.grown hg⟩
theorem RLog.form (h : RLog w b v c core es) : ∃ ad cap, v = .slice ad es.length cap := h.sl.form
theorem RLog.cells (h : RLog w b v c core es) : w.cell? ⟨b, 4, none⟩ = some (.int .i64 c.lo) ∧ w.cell? ⟨b, 8, none⟩ = some (.int .i64 core) ∧ w.cell? ⟨b, 9, none⟩ = some v := by
  simp [World.cell?, h.blk]
theorem RLog.at_ {ad : Option Addr} {n cap : Nat} (h : RLog w b (.slice ad n cap) c core es) {k : Nat} {x : Int × Int} (hx : es[k]? = some x) : ∃ g off, ad = some ⟨g, off, none⟩ ∧ w.cell? ⟨g, off + k * 2, none⟩ = some (.int .u32 x.1) ∧ w.cell? ⟨g, off + k * 2 + 1, none⟩ = some (.int .u32 x.2) := by
  have h0 := sl.flat_at et_len es k x 0 (.int .u32 x.1) hx rfl
  have h1 := sl.flat_at et_len es k x 1 (.int .u32 x.2) hx rfl
  obtain ⟨g, off, e, _, hc⟩ := h.sl.cellAt _ _ h0
  exact ⟨g, off, e, hc _ _ h0, by have := hc _ _ h1; rwa [← Nat.add_assoc] at this⟩

theorem set_heap {T : TypeId} {cs : Array Value} (h : w.heap[b]? = some (.cells cs T (0, 0))) (i : Nat) (u : Value) : (w.setCell ⟨b, i, none⟩ u).heap[b]? = some (.cells (cs.setIfInBounds i u) T (0, 0)) := by
  obtain ⟨hlt, hk⟩ := Array.getElem?_eq_some_iff.1 h
  show (w.heap.modify b _)[b]? = _
  rw [Array.getElem?_eq_getElem (by rw [Array.size_modify]; exact hlt), Array.getElem_modify_self, hk]
  simp
/-- Another slice of entries is laid into the log. -/
theorem RLog.put {v' : Value} {es' : List (Int × Int)} (h : RLog w b v c core es) (hs : Sl w 71 2 v' es'.length (flat et es')) : RLog (w.setCell ⟨b, 9, none⟩ v').drew b v' c core es' ∧ w.grownBy (w.setCell ⟨b, 9, none⟩ v').drew (some b) := by
  refine ⟨⟨by show (w.setCell ⟨b, 9, none⟩ v').heap[b]? = _; rw [set_heap h.blk]; rfl, hs.of_block fun g hg => ?_⟩, grown_trans (grown_setCell _ _ _ _) (grown_drewN _ 1 |> fun k => ⟨k.os, k.tape, k.output, k.size, fun i hi _ => k.block i hi (by simp)⟩)⟩
  obtain ⟨cur, hc⟩ := hs.type g hg
  have hne := pp.tyne hc h.blk (by decide)
  exact Below.heap_setCell _ _ _ _ (by simpa using hne)

theorem rroom_any (h : RLog w b v c core es) (h1 : 0 ≤ c.lo) (h4 : c.lo ≤ 4) (hl : es.length ≤ 32) : Calls Tryd.prog 25 #[.pointer (some ⟨b, 0, none⟩)] w fun e w' => e = .returned (.int .i64 (8 * c.lo - es.length)) ∧ ∃ q, w' = w.drewN q := by
  obtain ⟨ad, cap, rfl⟩ := h.form
  obtain ⟨c4, c8, c9⟩ := h.cells
  clear h
  go_enter Tryd.func25, Tryd.ntmps25
  go_wp2_with fail
  go_big_quiet (fail)
  go_wp2_with fail
  go_ret
  exact ⟨rfl, nq, rfl⟩
theorem rat_out (h : RLog w b v c core es) (i : Int) (hi : i < 0 ∨ (es.length : Int) ≤ i) : Calls Tryd.prog 24 #[.pointer (some ⟨b, 0, none⟩), .int .i64 i] w fun e w' => e = .returned (.tuple #[.int .u32 0, .int .u32 0, .int .i64 4]) ∧ w.grownBy w' none := by
  obtain ⟨ad, cap, rfl⟩ := h.form
  obtain ⟨c4, c8, c9⟩ := h.cells
  clear h
  by_cases h0 : i < 0
  · clear hi
    go_enter Tryd.func24, Tryd.ntmps24
    go_wp2
    go_ret3
    exact ⟨rfl, grown_refl _ _⟩
  · have h0' : decide (i < 0) = false := decide_eq_false h0
    have h1 : (es.length : Int) ≤ i := by omega
    clear hi
    go_enter Tryd.func24, Tryd.ntmps24
    go_wp2
    go_ret3
    exact ⟨rfl, grown_refl _ _⟩
theorem rat_in (h : RLog w b v c core es) (k : Nat) (x : Int × Int) (hx : es[k]? = some x) : Calls Tryd.prog 24 #[.pointer (some ⟨b, 0, none⟩), .int .i64 (k : Int)] w fun e w' => e = .returned (.tuple #[.int .u32 x.1, .int .u32 x.2, .int .i64 0]) ∧ w.grownBy w' none := by
  obtain ⟨ad, cap, rfl⟩ := h.form
  obtain ⟨c4, c8, c9⟩ := h.cells
  obtain ⟨g, off, rfl, e0, e1⟩ := h.at_ hx
  have hk : k < es.length := (List.getElem?_eq_some_iff.1 hx).1
  clear h
  go_enter Tryd.func24, Tryd.ntmps24
  go_wp2_with fail
  go_big_quiet (fail)
  go_wp2_with fail
  go_ret3
  exact ⟨rfl, grown_drewN _ _⟩
theorem rpop_none (h : RLog w b v c core []) : Calls Tryd.prog 22 #[.pointer (some ⟨b, 0, none⟩)] w fun e w' => e = .returned (.int .i64 4) ∧ w = w' := by
  obtain ⟨ad, cap, rfl⟩ := h.form
  obtain ⟨c4, c8, c9⟩ := h.cells
  clear h
  go_enter Tryd.func22, Tryd.ntmps22
  go_wp2
  go_ret
  exact ⟨rfl, rfl⟩
theorem rpop_some (h : RLog w b v c core es) (hn : 0 < es.length) (hl : es.length ≤ 32) : Calls Tryd.prog 22 #[.pointer (some ⟨b, 0, none⟩)] w fun e w' => e = .returned (.int .i64 0) ∧ ∃ v', v'.ownBlock = v.ownBlock ∧ RLog w' b v' c core es.dropLast ∧ w.grownBy w' (some b) := by
  obtain ⟨n1, hn1⟩ : ∃ n1, es.length = n1 + 1 := ⟨es.length - 1, by omega⟩
  obtain ⟨g, off, cap, rfl, hcap⟩ : ∃ g off cap, v = .slice (some ⟨g, off, none⟩) es.length cap ∧ es.length ≤ cap := by
    rcases h.sl with ⟨_, h0, _⟩ | ⟨g, off, cap, cur, hv, _, _, hc, _⟩
    · omega
    · exact ⟨g, off, cap, hv, hc⟩
  obtain ⟨c4, c8, c9⟩ := h.cells
  have HH := Lib.hid h
  have f9 : w.frozen? ⟨b, 9, none⟩ = false := by simp [World.frozen?, h.blk]
  clear h hn
  rw [hn1] at c9 hcap
  go_enter Tryd.func22, Tryd.ntmps22
  go_wp2_with fail
  go_region
  all_goals go_wp2
  go_ret
  have hs := sl.head_sl HH.out.sl n1 (by omega) cap (by omega) (Nat.le_refl _)
  rw [sl.flat_take et_len es n1 (by omega)] at hs
  have hd : es.dropLast = es.take n1 := by rw [List.dropLast_eq_take, hn1]; rfl
  have hdl : (es.take n1).length = n1 := by rw [List.length_take, hn1]; omega
  have hs' : Sl w 71 2 (.slice (some ⟨g, off, none⟩) n1 cap) (es.take n1).length (flat et (es.take n1)) := by rw [hdl]; exact hs
  obtain ⟨r1, r2⟩ := HH.out.put hs'
  exact ⟨rfl, .slice (some ⟨g, off, none⟩) n1 cap, rfl, by rw [hd]; exact r1, r2⟩
end
end Go.Proofs.YtfjjmlmkpdpdfaaDoor.ud
