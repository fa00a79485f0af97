/-
  The landed log: how it lies, and what its places, Len, Room, Pop, Clear answer. No condition but the bounds that each theorem names.
-/
import Derived.Test.YtfjjmlmkpdpdfaaDoorUdG
import Derived.Handy
namespace Go.Proofs.YtfjjmlmkpdpdfaaDoor.ud
open Go Go.ChangeShapes Go.WideShapes Go.ChangeAt Go.RowKit
open Go.Proofs.YtfjjmlmkpdpdfaaDoor.tt (Cfg Tab trip CfgAt)
open Go.Proofs.YtfjjmlmkpdpdfaaDoor.pp (RMem Mem grown_refl grown_trans grown_alloc)
set_option linter.unusedVariables false
set_option maxRecDepth 1000000

/-- A log's cells: its plan, its memory, its first block, for how many entries there is room, how many there are. -/
def lcs (c : Cfg) (mb F n : Nat) : Array Value := #[.int .i64 c.co, .int .i64 c.se, .int .i64 c.wa, .int .i64 c.bl, .int .i64 c.lo, .int .i64 c.ba, .int .i64 c.ne, .int .i64 c.tr, .pointer (some ⟨mb, 0, none⟩), .int .i64 (F : Int), .int .i64 (8 * c.lo), .int .i64 (n : Int)]
/-- A log lies at b. -/
structure LogAt (w : World) (b : Nat) (c : Cfg) (mb F n : Nat) : Prop where
  blk : w.heap[b]? = some (.cells (lcs c mb F n) 78 (0, 0))
section
variable {w w' : World} {b mb F n : Nat} {c : Cfg}
theorem LogAt.lt (h : LogAt w b c mb F n) : b < w.heap.size := (Array.getElem?_eq_some_iff.1 h.blk).1
theorem LogAt.grown (h : LogAt w b c mb F n) (hg : w.grownBy w' none) : LogAt w' b c mb F n := ⟨(hg.block b h.lt (by simp)).trans h.blk⟩
theorem LogAt.cells (h : LogAt w b c mb F n) : w.cell? ⟨b, 8, none⟩ = some (.pointer (some ⟨mb, 0, none⟩)) ∧ w.cell? ⟨b, 9, none⟩ = some (.int .i64 (F : Int)) ∧ w.cell? ⟨b, 10, none⟩ = some (.int .i64 (8 * c.lo)) ∧ w.cell? ⟨b, 11, none⟩ = some (.int .i64 (n : Int)) := by
  simp [World.cell?, h.blk, lcs]
theorem LogAt.free (h : LogAt w b c mb F n) : w.frozen? ⟨b, 11, none⟩ = false := by simp [World.frozen?, h.blk]
theorem LogAt.plan (h : LogAt w b c mb F n) : w.cell? ⟨b, 0, none⟩ = some (.int .i64 c.co) ∧ w.cell? ⟨b, 1, none⟩ = some (.int .i64 c.se) ∧ w.cell? ⟨b, 2, none⟩ = some (.int .i64 c.wa) ∧ w.cell? ⟨b, 3, none⟩ = some (.int .i64 c.bl) ∧ w.cell? ⟨b, 4, none⟩ = some (.int .i64 c.lo) ∧ w.cell? ⟨b, 5, none⟩ = some (.int .i64 c.ba) ∧ w.cell? ⟨b, 6, none⟩ = some (.int .i64 c.ne) ∧ w.cell? ⟨b, 7, none⟩ = some (.int .i64 c.tr) := by
  simp [World.cell?, h.blk, lcs]
/-- How many there are becomes another number. -/
theorem LogAt.put (h : LogAt w b c mb F n) (m : Nat) : LogAt (w.setCell ⟨b, 11, none⟩ (.int .i64 (m : Int))) b c mb F m := ⟨by rw [set_heap h.blk]; rfl⟩

theorem len_any (h : LogAt w b c mb F n) : Calls Tryd.prog 17 #[.pointer (some ⟨b, 0, none⟩)] w fun e w' => e = .returned (.int .i64 (n : Int)) ∧ ∃ q, w' = w.drewN q := by
  obtain ⟨c8, c9, c10, c11⟩ := h.cells
  clear h
  go_enter Tryd.func17, Tryd.ntmps17
  go_wp2
  go_ret
  exact ⟨rfl, 0, rfl⟩
theorem room_any (h : LogAt w b c mb F n) (h1 : 0 ≤ c.lo) (h4 : c.lo ≤ 4) (hl : n ≤ 32) : Calls Tryd.prog 18 #[.pointer (some ⟨b, 0, none⟩)] w fun e w' => e = .returned (.int .i64 (8 * c.lo - (n : Int))) ∧ ∃ q, w' = w.drewN q := by
  obtain ⟨c8, c9, c10, c11⟩ := h.cells
  clear h
  go_enter Tryd.func18, Tryd.ntmps18
  go_wp2_with fail
  go_big_quiet (fail)
  go_wp2_with fail
  go_ret
  exact ⟨rfl, nq, rfl⟩
theorem pop_none (h : LogAt w b c mb F 0) : Calls Tryd.prog 14 #[.pointer (some ⟨b, 0, none⟩)] w fun e w' => e = .returned (.int .i64 4) ∧ w.grownBy w' none := by
  obtain ⟨c8, c9, c10, c11⟩ := h.cells
  clear h
  go_enter Tryd.func14, Tryd.ntmps14
  go_wp2
  go_ret
  exact ⟨rfl, grown_refl _ _⟩
theorem pop_some (h : LogAt w b c mb F (n + 1)) (hn : n + 1 ≤ 32) : Calls Tryd.prog 14 #[.pointer (some ⟨b, 0, none⟩)] w fun e w' => e = .returned (.int .i64 0) ∧ LogAt w' b c mb F n ∧ w.grownBy w' (some b) := by
  obtain ⟨c8, c9, c10, c11⟩ := h.cells
  have f11 := h.free
  have H := Lib.hid h
  clear h
  have hz : (((n + 1 : Nat) : Int) == 0) = false := beq_eq_false_iff_ne.2 (by omega)
  obtain ⟨m, hm⟩ : ∃ m : Int, ((n + 1 : Nat) : Int) = m := ⟨_, rfl⟩
  rw [hm] at hz c11
  have h0 : 1 ≤ m := by omega
  have h9 : m ≤ 32 := by omega
  have HM := Lib.hid hm
  clear hm
  go_enter Tryd.func14, Tryd.ntmps14
  go_wp2
  go_ret
  have e : m - 1 = (n : Int) := by have := HM.out; omega
  rw [e]
  exact ⟨rfl, H.out.put n, grown_setCell _ _ _ _⟩
theorem clear_any (h : LogAt w b c mb F n) : Calls Tryd.prog 16 #[.pointer (some ⟨b, 0, none⟩)] w fun e w' => e = .returned (.tuple #[]) ∧ LogAt w' b c mb F 0 ∧ w.grownBy w' (some b) := by
  obtain ⟨c8, c9, c10, c11⟩ := h.cells
  have f11 := h.free
  have H := Lib.hid h
  clear h
  go_enter Tryd.func16, Tryd.ntmps16
  go_wp2
  refine bodyPost_end (results_none rfl _ _ _) rfl ?_
  exact ⟨rfl, H.out.put 0, grown_setCell _ _ _ _⟩

/-- The places of an entry. -/
def plc (F i : Nat) : Array Value := #[.int .i64 ((F + i / 8 : Nat) : Int), .int .i64 ((i % 8 * 2 : Nat) : Int), .int .i64 ((F + i / 8 : Nat) : Int), .int .i64 ((i % 8 * 2 + 1 : Nat) : Int)]
theorem places_any (h : LogAt w b c mb F n) (i : Nat) (hF : F ≤ 256) (hi : i < 32) : Calls Tryd.prog 36 #[.pointer (some ⟨b, 0, none⟩), .int .i64 (i : Int)] w fun e w' => e = .returned (.agg (plc F i)) ∧ w.grownBy w' none := by
  obtain ⟨c8, c9, c10, c11⟩ := h.cells
  have hlt := h.lt
  have e0 : (F : Int) + ((i : Int) * 2) / 16 = ((F + i / 8 : Nat) : Int) := by omega
  have e1 : ((i : Int) * 2) % 16 = ((i % 8 * 2 : Nat) : Int) := by omega
  have e2 : (F : Int) + ((i : Int) * 2 + 1) / 16 = ((F + i / 8 : Nat) : Int) := by omega
  have e3 : ((i : Int) * 2 + 1) % 16 = ((i % 8 * 2 + 1 : Nat) : Int) := by omega
  have HE := Lib.hid (And.intro e0 (And.intro e1 (And.intro e2 e3)))
  clear h e0 e1 e2 e3
  go_enter Tryd.func36, Tryd.ntmps36
  go_wp2
  go_rounds 3
  go_returns
  obtain ⟨e0, e1, e2, e3⟩ := HE.out
  unfold plc
  rw [e0, e1, e2, e3]
  exact ⟨rfl, grown_refl _ _ |> fun h => grown_alloc (grown_alloc h _) _⟩
end
end Go.Proofs.YtfjjmlmkpdpdfaaDoor.ud
