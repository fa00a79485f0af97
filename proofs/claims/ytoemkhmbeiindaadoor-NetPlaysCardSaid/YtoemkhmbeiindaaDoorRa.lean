/-
  The document's net in memory; its New, Room; the document's Hops: contracts. Condition: none but what each theorem names.
-/
import Derived.Test.YtoemkhmbeiindaaDoorNr
import Derived.Test.YtoemkhmbeiindaaDoorPr
namespace Go.Proofs.YtoemkhmbeiindaaDoor.tt
open Go Go.ChangeShapes Go.WideShapes Go.ChangeAt Go.RowKit Go.Shelf
set_option linter.unusedVariables false

/-- The cells of the document's net. -/
def rnetc (c : Cfg) (r : Nat) (u : Value) (h : Int) : Array Value := #[.int .i64 c.co, .int .i64 c.se, .int .i64 c.wa, .int .i64 c.bl, .int .i64 c.lo, .int .i64 c.ba, .int .i64 c.ne, .int .i64 c.tr, .int .i64 (r : Int), u, .int .i64 h]
structure RNet (w : World) (q : Nat) (c : Cfg) (r : Nat) (u : Value) (ns : List Nt) (h : Int) : Prop where
  blk : w.heap[q]? = some (.cells (rnetc c r u h) 52 (0, 0))
  sl : NSl w u ns
section
variable {w w' : World} {q r : Nat} {c : Cfg} {u u' : Value} {ns ns' : List Nt} {h : Int}
theorem RNet.lt (H : RNet w q c r u ns h) : q < w.heap.size := lt_of H.blk
theorem RNet.qu (H : RNet w q c r u ns h) : ∀ k, u.ownBlock = some k → k ≠ q := fun k hk => by
  obtain ⟨cur, hc⟩ := H.sl.type k hk
  exact tyne hc H.blk (by decide)
theorem RNet.of_block (H : RNet w q c r u ns h) (h1 : w'.heap[q]? = w.heap[q]?) (h2 : ∀ g, u.ownBlock = some g → w'.heap[g]? = w.heap[g]?) : RNet w' q c r u ns h := ⟨h1.trans H.blk, H.sl.of_block h2⟩
theorem RNet.grown (H : RNet w q c r u ns h) (hg : w.grownBy w' none) : RNet w' q c r u ns h := ⟨(hg.block q H.lt (by simp)).trans H.blk, H.sl.grown hg⟩
theorem RNet.cell (H : RNet w q c r u ns h) (k : Nat) (x : Value) (hx : (rnetc c r u h)[k]? = some x) : w.cell? ⟨q, k, none⟩ = some x := (cell_of_row _ _ k _ _ _ H.blk).trans hx
theorem RNet.c0 (H : RNet w q c r u ns h) : w.cell? ⟨q, 0, none⟩ = some (.int .i64 c.co) := H.cell 0 _ rfl
theorem RNet.c8 (H : RNet w q c r u ns h) : w.cell? ⟨q, 8, none⟩ = some (.int .i64 (r : Int)) := H.cell 8 _ rfl
theorem RNet.c9 (H : RNet w q c r u ns h) : w.cell? ⟨q, 9, none⟩ = some u := H.cell 9 _ rfl
theorem RNet.c10 (H : RNet w q c r u ns h) : w.cell? ⟨q, 10, none⟩ = some (.int .i64 h) := H.cell 10 _ rfl
theorem RNet.cfg (H : RNet w q c r u ns h) : w.cell? ⟨q, 0, none⟩ = some (.int .i64 c.co) ∧ w.cell? ⟨q, 1, none⟩ = some (.int .i64 c.se) ∧ w.cell? ⟨q, 2, none⟩ = some (.int .i64 c.wa) ∧ w.cell? ⟨q, 3, none⟩ = some (.int .i64 c.bl) ∧ w.cell? ⟨q, 4, none⟩ = some (.int .i64 c.lo) ∧ w.cell? ⟨q, 5, none⟩ = some (.int .i64 c.ba) ∧ w.cell? ⟨q, 6, none⟩ = some (.int .i64 c.ne) ∧ w.cell? ⟨q, 7, none⟩ = some (.int .i64 c.tr) :=
  ⟨H.cell 0 _ rfl, H.cell 1 _ rfl, H.cell 2 _ rfl, H.cell 3 _ rfl, H.cell 4 _ rfl, H.cell 5 _ rfl, H.cell 6 _ rfl, H.cell 7 _ rfl⟩
theorem RNet.frozen (H : RNet w q c r u ns h) (k : Nat) : w.frozen? ⟨q, k, none⟩ = false := frozen_of_row _ _ _ _ _ H.blk
end

theorem rabs_any (x : Int) (w : World) (h1 : -1000 ≤ x) (h2 : x ≤ 1000) : Calls Tryd.prog 62 #[.int .i64 x] w fun e w' => e = .returned (.int .i64 (x.natAbs : Int)) ∧ w = w' := by
  by_cases hx : x < 0
  · have hw : IntKind.i64.wrap (-x) = -x := IntWalk.i64_in _ (by omega)
    have he : (x.natAbs : Int) = -x := by omega
    rw [he]
    go_enter Tryd.func62, Tryd.ntmps62
    go_wp2
    go_ret
    exact ⟨rfl, rfl⟩
  · have he : (x.natAbs : Int) = x := by omega
    rw [he]
    go_enter Tryd.func62, Tryd.ntmps62
    go_wp2
    go_ret
    exact ⟨rfl, rfl⟩
theorem rhops_any (a b x y : Int) (w : World) (ha : -100 ≤ a ∧ a ≤ 100) (hb : -100 ≤ b ∧ b ≤ 100) (hx : -100 ≤ x ∧ x ≤ 100) (hy : -100 ≤ y ∧ y ≤ 100) : Calls Tryd.prog 44 #[.int .i64 a, .int .i64 b, .int .i64 x, .int .i64 y] w fun e w' => e = .returned (.int .i64 (dist a b x y)) ∧ w = w' := by
  have h1 : IntKind.i64.wrap (x - a) = x - a := IntWalk.i64_in _ (by omega)
  have h2 : IntKind.i64.wrap (y - b) = y - b := IntWalk.i64_in _ (by omega)
  have h3 : IntKind.i64.wrap (((x - a).natAbs : Int) + ((y - b).natAbs : Int)) = dist a b x y := (IntWalk.i64_in _ (by omega)).trans (by unfold dist; omega)
  have A1 := Lib.hid (rabs_any (x - a) w (by omega) (by omega))
  have A2 := Lib.hid (rabs_any (y - b) w (by omega) (by omega))
  generalize dist a b x y = D at h3 ⊢
  generalize ((x - a).natAbs : Int) = n1 at *
  generalize ((y - b).natAbs : Int) = n2 at *
  clear ha hb hx hy
  go_enter Tryd.func44, Tryd.ntmps44
  go_wp2_with (first
    | (go_at_call 62; ((with_reducible refine A1.out.mono ?_); rintro e w1 ⟨rfl, rfl⟩))
    | (go_at_call 62; ((with_reducible refine A2.out.mono ?_); rintro e w1 ⟨rfl, rfl⟩)))
  go_ret
  exact ⟨rfl, rfl⟩

set_option maxRecDepth 100000 in
set_option maxHeartbeats 1000000 in
theorem rnew_bad (c : Cfg) (room : Int) (w : World) (h : ¬ (c.may ∧ 1 ≤ room ∧ room ≤ 1024)) : Calls Tryd.prog 20 #[.agg c.cells, .int .i64 room] w fun e w' => e = .returned (.tuple #[.pointer none, .int .i64 2]) ∧ w.grownBy w' none := by
  have HG0 : Hid (w.grownBy (w.alloc (.cells c.cells 27)) none) := Lib.hid (grown_alloc (grown_refl _ _) _)
  have HM := Lib.hid (rmay_any c (w.alloc (.cells c.cells 27)))
  obtain ⟨c0, c1, c2, c3, c4, c5, c6, c7⟩ := cfg_at w c
  by_cases hm : c.may
  · rw [decide_eq_true hm] at HM
    have h2 : room < 1 ∨ ¬ room < 1 ∧ 1024 < room := by
      by_cases h1 : room < 1
      · exact .inl h1
      · exact .inr ⟨h1, by have : ¬ room ≤ 1024 := fun h3 => h ⟨hm, by omega, h3⟩; omega⟩
    clear h hm
    unfold Cfg.cells at *
    rcases h2 with h1 | ⟨h1, h2⟩
    · go_enter Tryd.func20, Tryd.ntmps20
      go_wp2_with (go_at_call 41; ((with_reducible refine HM.out.mono ?_); rintro e w1 ⟨rfl, hg1⟩; have HG1 := Lib.hid hg1; clear hg1))
      go_ret2
      exact ⟨rfl, grown_trans HG0.out HG1.out⟩
    · have h3 : decide (room < 1) = false := by simp; omega
      have h4 : decide (1024 < room) = true := by simp; omega
      clear h1 h2
      go_enter Tryd.func20, Tryd.ntmps20
      go_wp2_with (go_at_call 41; ((with_reducible refine HM.out.mono ?_); rintro e w1 ⟨rfl, hg1⟩; have HG1 := Lib.hid hg1; clear hg1))
      go_ret2
      exact ⟨rfl, grown_trans HG0.out HG1.out⟩
  · rw [decide_eq_false hm] at HM
    clear h hm
    unfold Cfg.cells at *
    go_enter Tryd.func20, Tryd.ntmps20
    go_wp2_with (go_at_call 41; ((with_reducible refine HM.out.mono ?_); rintro e w1 ⟨rfl, hg1⟩; have HG1 := Lib.hid hg1; clear hg1))
    go_ret2
    exact ⟨rfl, grown_trans HG0.out HG1.out⟩
set_option maxRecDepth 100000 in
set_option maxHeartbeats 1000000 in
theorem rnew_ok (c : Cfg) (r : Nat) (w : World) (hm : c.may) (h1 : 1 ≤ r) (h2 : r ≤ 1024) : Calls Tryd.prog 20 #[.agg c.cells, .int .i64 (r : Int)] w fun e w' => ∃ q, e = .returned (.tuple #[.pointer (some ⟨q, 0, none⟩), .int .i64 0]) ∧ RNet w' q c r (.slice none 0 0) [] 0 ∧ w.grownBy w' none ∧ w.heap.size ≤ q := by
  have HG0 : Hid (w.grownBy (w.alloc (.cells c.cells 27)) none) := Lib.hid (grown_alloc (grown_refl _ _) _)
  have HA := Lib.hid (cfg_at w c)
  have HM := Lib.hid (rmay_any c (w.alloc (.cells c.cells 27)))
  rw [decide_eq_true hm] at HM
  obtain ⟨c0, c1, c2, c3, c4, c5, c6, c7⟩ := cfg_at w c
  clear hm
  unfold Cfg.cells at HG0 HM ⊢
  go_enter Tryd.func20, Tryd.ntmps20
  go_wp2_with (go_at_call 41; ((with_reducible refine HM.out.mono ?_); rintro e w1 ⟨rfl, hg1⟩; obtain ⟨d0, d1, d2, d3, d4, d5, d6, d7⟩ := HA.out.grown hg1; have HG1 := Lib.hid hg1; clear hg1))
  go_ret2
  have hz := HG1.out.size
  simp at hz
  exact ⟨w1.heap.size, rfl, ⟨heap_alloc_new _ _, Sl.nil _ _ _⟩, grown_alloc (grown_trans HG0.out HG1.out) _, by omega⟩
end Go.Proofs.YtoemkhmbeiindaaDoor.tt
