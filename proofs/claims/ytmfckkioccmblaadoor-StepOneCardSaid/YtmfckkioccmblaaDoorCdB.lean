/-
  What whole, May and word of package code answer: contracts. The tables are as the program's text lays them (Tab).
-/
import Derived.Test.YtmfckkioccmblaaDoorCdA
import Derived.Deep.CutRange
import Derived.Deep.QuietTactic
import Derived.BigQuiet
namespace Go.Proofs.YtmfckkioccmblaaDoor.cd
open Go Go.ChangeShapes Go.WideShapes Go.ChangeAt Go.RowKit
set_option linter.unusedVariables false
set_option maxRecDepth 1000000

/-- The form of each instruction. -/
def fT : List Nat := [0, 1, 1, 1, 1, 1, 1, 1, 2, 2, 2, 1, 3, 2, 2, 2, 4, 4, 0, 5, 6, 0]
def fm (op : Nat) : Nat := fT.getD op 0
/-- What a form uses: the bounds of each part. -/
structure U where
  la : Int
  ha : Int
  lb : Int
  hb : Int
  lc : Int
  hc : Int
  ln : Int
  hn : Int
def us : Nat → U
  | 0 => ⟨0, 0, 0, 0, 0, 0, 0, 0⟩
  | 1 => ⟨0, 15, 0, 15, 0, 15, 0, 0⟩
  | 2 => ⟨0, 15, 0, 15, 0, 0, -8192, 8191⟩
  | 3 => ⟨0, 15, 0, 0, 0, 0, -2097152, 2097151⟩
  | 4 => ⟨0, 0, 0, 0, 0, 0, -2097152, 2097151⟩
  | 5 => ⟨0, 0, 0, 0, 0, 0, 0, 255⟩
  | _ => ⟨0, 15, 0, 0, 0, 0, 0, 0⟩
/-- The cells of both tables. -/
structure Tab (w : World) : Prop where
  forms : ∀ k, k < 22 → w.cell? ⟨1, k, none⟩ = some (.int .u8 (fm k : Int))
  uses : ∀ f, f < 7 → (w.cell? ⟨0, f * 8, none⟩ = some (.int .i64 (us f).la) ∧ w.cell? ⟨0, f * 8 + 1, none⟩ = some (.int .i64 (us f).ha) ∧ w.cell? ⟨0, f * 8 + 2, none⟩ = some (.int .i64 (us f).lb) ∧ w.cell? ⟨0, f * 8 + 3, none⟩ = some (.int .i64 (us f).hb)) ∧ w.cell? ⟨0, f * 8 + 4, none⟩ = some (.int .i64 (us f).lc) ∧ w.cell? ⟨0, f * 8 + 5, none⟩ = some (.int .i64 (us f).hc) ∧ w.cell? ⟨0, f * 8 + 6, none⟩ = some (.int .i64 (us f).ln) ∧ w.cell? ⟨0, f * 8 + 7, none⟩ = some (.int .i64 (us f).hn)
theorem Tab.grown {w w' : World} (h : Tab w) (hg : w.grownBy w' none) : Tab w' :=
  ⟨fun k hk => hg.cell (h.forms k hk) (by simp), fun f hf => by
    obtain ⟨⟨h0, h1, h2, h3⟩, h4, h5, h6, h7⟩ := h.uses f hf
    exact ⟨⟨hg.cell h0 (by simp), hg.cell h1 (by simp), hg.cell h2 (by simp), hg.cell h3 (by simp)⟩, hg.cell h4 (by simp), hg.cell h5 (by simp), hg.cell h6 (by simp), hg.cell h7 (by simp)⟩⟩
theorem fm_lt (k : Nat) : fm k < 7 := by
  unfold fm
  by_cases h : k < 22
  · have : ∀ j : Fin 22, fT.getD j.val 0 < 7 := by decide
    exact this ⟨k, h⟩
  · rw [List.getD_eq_getElem?_getD, List.getElem?_eq_none (by show 22 ≤ k; omega)]; decide

/-- An instruction. -/
structure Cd where
  op : Nat
  a : Int
  b : Int
  c : Int
  n : Int
deriving DecidableEq
def ca (c : Cd) : Array Value := #[.int .u8 (c.op : Int), .int .i64 c.a, .int .i64 c.b, .int .i64 c.c, .int .i64 c.n]
/-- What it would be whole. -/
def wh (c : Cd) : Cd := let u := us (fm c.op); ⟨c.op, nr u.la u.ha c.a, nr u.lb u.hb c.b, nr u.lc u.hc c.c, nr u.ln u.hn c.n⟩
theorem infoC (a b c d e : Value) : (Tryd.prog.info? 28).map (·.size) = some (#[a, b, c, d, e] : Array Value).size := by
  have : (Tryd.prog.info? 28).map (·.size) = some 5 := by kernel_rfl
  exact this
/-- A function whose one result is an instruction's variable. -/
theorem ret1 {fn : Func} {p : Tmp} (h : fn.results = #[.cell p 28]) {tmps : Array Value} {w : World} {g : Nat} {t : TypeId} {c : Cd} {fr : Nat × Nat} {Q : Ending → World → Prop}
    (hp : tmps.getD p undef = .pointer (some ⟨g, 0, none⟩)) (hg : w.heap[g]? = some (.cells (ca c) t fr)) (hQ : Q (.returned (.agg (ca c))) w) : bodyPost Tryd.prog fn Q .ret { tmps := tmps, defers := [] } w :=
  bodyPost_ret (v := .agg (ca c)) (results_cell_row h _ _ g t (ca c) fr _ hp hg Tryd.underlying28 rfl (infoC _ _ _ _ _)) rfl hQ

theorem three (w : World) (x y z : Obj) : ∃ w3, ((w.alloc x).alloc y).alloc z = w3 ∧ w.grownBy w3 none ∧ w3.heap[w.heap.size]? = some x ∧ w3.heap[w.heap.size + 1]? = some y ∧ w3.heap[w.heap.size + 1 + 1]? = some z := by
  have g2 := grown_alloc (grown_refl (w.alloc x) none) y
  have g3 := grown_alloc (grown_refl ((w.alloc x).alloc y) none) z
  have e1 : (w.alloc x).heap.size = w.heap.size + 1 := by simp
  have e2 : ((w.alloc x).alloc y).heap.size = w.heap.size + 1 + 1 := by simp
  have b2 := heap_alloc_new (w.alloc x) y
  have b3 := heap_alloc_new ((w.alloc x).alloc y) z
  rw [e1] at b2
  rw [e2] at b3
  exact ⟨_, rfl, grown_alloc (grown_alloc (grown_alloc (grown_refl _ _) _) _) _, row_grown (row_grown (heap_alloc_new _ _) g2) g3, row_grown b2 g3, b3⟩
theorem cells5 {w : World} {g : Nat} {a b c d e : Value} {t : TypeId} {fr : Nat × Nat} (h : w.heap[g]? = some (.cells #[a, b, c, d, e] t fr)) : w.cell? ⟨g, 0, none⟩ = some a ∧ w.cell? ⟨g, 1, none⟩ = some b ∧ w.cell? ⟨g, 2, none⟩ = some c ∧ w.cell? ⟨g, 3, none⟩ = some d ∧ w.cell? ⟨g, 4, none⟩ = some e :=
  ⟨cell_of_row _ _ 0 _ _ _ h, cell_of_row _ _ 1 _ _ _ h, cell_of_row _ _ 2 _ _ _ h, cell_of_row _ _ 3 _ _ _ h, cell_of_row _ _ 4 _ _ _ h⟩
theorem frz {w : World} {g : Nat} {c : Array Value} {t : TypeId} (h : w.heap[g]? = some (.cells c t (0, 0))) : ∀ j, w.frozen? ⟨g, j, none⟩ = false := fun j => frozen_of_row _ _ _ _ _ h
/-- All old blocks but g stand. -/
def Kp (w : World) (g : Nat) (w' : World) : Prop := ∀ k, k < w.heap.size → k ≠ g → w'.heap[k]? = w.heap[k]?
theorem Kp.of {w w' : World} (g : Nat) (h : w.grownBy w' none) : Kp w g w' := fun k hk _ => h.block k hk (by simp)
theorem Kp.set {w w' : World} {g : Nat} (h : Kp w g w') (j : Nat) (v : Value) : Kp w g (w'.setCell ⟨g, j, none⟩ v) := fun k hk hn => (heap_setCell_other _ _ _ _ hn).trans (h k hk hn)
theorem Kp.next {w w' w'' : World} {g : Nat} (h : Kp w g w') (hs : w'.grownBy w'' none) : Kp w g w'' := fun k hk hn => by
  have e := h k hk hn
  rw [Array.getElem?_eq_getElem hk] at e
  exact (row_grown e hs).trans (Array.getElem?_eq_getElem hk).symm
theorem Kp.row {w w' : World} {g k : Nat} {o : Obj} (h : Kp w g w') (hk : w.heap[k]? = some o) (hn : k ≠ g) : w'.heap[k]? = some o := (h k (Array.getElem?_eq_some_iff.1 hk).1 hn).trans hk
theorem grown_set {w w' : World} (h : w.grownBy w' none) (g j : Nat) (hg : w.heap.size ≤ g) (v : Value) : w.grownBy (w'.setCell ⟨g, j, none⟩ v) none :=
  ⟨h.os, h.tape, h.output, by have := h.size; simp; omega, fun k hk hn => (heap_setCell_other _ _ _ _ (by show k ≠ g; omega)).trans (h.block k hk hn)⟩
/-- An instruction's five cells, stored one by one. -/
theorem set5 {w : World} {g : Nat} {t : TypeId} {a b c d e : Value} (h : w.heap[g]? = some (.cells #[a, b, c, d, e] t (0, 0))) (a' b' c' d' e' : Value) :
    (((((w.setCell ⟨g, 0, none⟩ a').setCell ⟨g, 1, none⟩ b').setCell ⟨g, 2, none⟩ c').setCell ⟨g, 3, none⟩ d').setCell ⟨g, 4, none⟩ e').heap[g]? = some (.cells #[a', b', c', d', e'] t (0, 0)) := by
  have h0 := heap_setCell_same w g 0 _ t a' h
  have h1 := heap_setCell_same _ g 1 _ t b' h0
  have h2 := heap_setCell_same _ g 2 _ t c' h1
  have h3 := heap_setCell_same _ g 3 _ t d' h2
  have h4 := heap_setCell_same _ g 4 _ t e' h3
  simpa using h4
/-- The thirteen cells of an instruction and of what its form uses, in whatever came to be since. -/
theorem keep13 {w : World} {p g k : Nat} {a b c d e a0 a1 a2 a3 a4 a5 a6 a7 : Value} {t u : TypeId} {fr fs : Nat × Nat} (hA : w.heap[g]? = some (.cells #[a, b, c, d, e] t fr)) (hC : w.heap[k]? = some (.cells #[a0, a1, a2, a3, a4, a5, a6, a7] u fs)) (hgp : g ≠ p) (hkp : k ≠ p) (w' : World) (hg : Kp w p w') :
    (w'.cell? ⟨g, 0, none⟩ = some a ∧ w'.cell? ⟨g, 1, none⟩ = some b ∧ w'.cell? ⟨g, 2, none⟩ = some c ∧ w'.cell? ⟨g, 3, none⟩ = some d ∧ w'.cell? ⟨g, 4, none⟩ = some e) ∧ (w'.cell? ⟨k, 0, none⟩ = some a0 ∧ w'.cell? ⟨k, 1, none⟩ = some a1 ∧ w'.cell? ⟨k, 2, none⟩ = some a2 ∧ w'.cell? ⟨k, 3, none⟩ = some a3) ∧ w'.cell? ⟨k, 4, none⟩ = some a4 ∧ w'.cell? ⟨k, 5, none⟩ = some a5 ∧ w'.cell? ⟨k, 6, none⟩ = some a6 ∧ w'.cell? ⟨k, 7, none⟩ = some a7 := by
  have h := hg.row hC hkp
  exact ⟨cells5 (hg.row hA hgp), ⟨cell_of_row _ _ 0 _ _ _ h, cell_of_row _ _ 1 _ _ _ h, cell_of_row _ _ 2 _ _ _ h, cell_of_row _ _ 3 _ _ _ h⟩, cell_of_row _ _ 4 _ _ _ h, cell_of_row _ _ 5 _ _ _ h, cell_of_row _ _ 6 _ _ _ h, cell_of_row _ _ 7 _ _ _ h⟩

set_option maxHeartbeats 2000000 in
theorem whole_any (c : Cd) (w : World) (hT : Tab w) (ho : c.op < 22) : Calls Tryd.prog 22 #[.agg (ca c)] w fun e w' => e = .returned (.agg (ca (wh c))) ∧ w.grownBy w' none := by
  obtain ⟨op, a, b, c, n⟩ := c
  have ho : op < 22 := ho
  have hc := hT.forms op ho
  have hf := fm_lt op
  have hu := hT.uses (fm op) hf
  unfold ca wh
  obtain ⟨f, hF⟩ : ∃ f, f = fm op := ⟨_, rfl⟩
  have z1 := World.block_lt_of_cell? w _ hc
  have z0 := World.block_lt_of_cell? w _ hu.1.1
  simp only at z0 z1
  simp only [← hF] at *
  generalize us f = u at hu ⊢
  obtain ⟨la, ha, lb, hb, lc, hc', ln, hn⟩ := u
  obtain ⟨⟨u0, u1, u2, u3⟩, u4, u5, u6, u7⟩ := hu
  simp only at u0 u1 u2 u3 u4 u5 u6 u7 ⊢
  have HN : Hid (∀ l h x w, _) := Lib.hid fun l h x w => nearest_any l h x w
  clear hT hF
  go_enter Tryd.func22, Tryd.ntmps22
  go_upto_region 2 with fail
  obtain ⟨w3, hw3, hg3, hA3, hB3, hC3⟩ := three w (.cells #[.int .u8 (op : Int), .int .i64 a, .int .i64 b, .int .i64 c, .int .i64 n] 28) (.cells #[.int .u8 0, .int .i64 0, .int .i64 0, .int .i64 0, .int .i64 0] 28) (.cells #[.int .i64 la, .int .i64 ha, .int .i64 lb, .int .i64 hb, .int .i64 lc, .int .i64 hc', .int .i64 ln, .int .i64 hn] 51)
  rw [hw3]
  have HX := Lib.hid (keep13 (p := w.heap.size + 1) hA3 hC3 (by omega) (by omega))
  have HY : Hid (Kp w3 (w.heap.size + 1) w3.drew) := Lib.hid fun _ _ _ => rfl
  have HG : Hid (w.grownBy w3.drew none) := Lib.hid (grown_drew hg3)
  have HB : Hid (w3.drew.heap[w.heap.size + 1]? = _) := Lib.hid hB3
  clear hw3 hg3 hA3 hB3 hC3 u0 u1 u2 u3 u4 u5 u6 u7 hc
  go_region_held3 (fun w' => (w'.cell? ⟨w.heap.size, 0, none⟩ = some (.int .u8 (op : Int)) ∧ w'.cell? ⟨w.heap.size, 1, none⟩ = some (.int .i64 a) ∧ w'.cell? ⟨w.heap.size, 2, none⟩ = some (.int .i64 b) ∧ w'.cell? ⟨w.heap.size, 3, none⟩ = some (.int .i64 c) ∧ w'.cell? ⟨w.heap.size, 4, none⟩ = some (.int .i64 n)) ∧ (w'.cell? ⟨w.heap.size + 1 + 1, 0, none⟩ = some (.int .i64 la) ∧ w'.cell? ⟨w.heap.size + 1 + 1, 1, none⟩ = some (.int .i64 ha) ∧ w'.cell? ⟨w.heap.size + 1 + 1, 2, none⟩ = some (.int .i64 lb) ∧ w'.cell? ⟨w.heap.size + 1 + 1, 3, none⟩ = some (.int .i64 hb)) ∧ w'.cell? ⟨w.heap.size + 1 + 1, 4, none⟩ = some (.int .i64 lc) ∧ w'.cell? ⟨w.heap.size + 1 + 1, 5, none⟩ = some (.int .i64 hc') ∧ w'.cell? ⟨w.heap.size + 1 + 1, 6, none⟩ = some (.int .i64 ln) ∧ w'.cell? ⟨w.heap.size + 1 + 1, 7, none⟩ = some (.int .i64 hn))
    (first | (with_reducible exact HX.out _ HY.out) | with_reducible exact HX.out _ (((((HY.out.set _ _).set _ _).set _ _).set _ _).set _ _))
    (first | (go_at_call 26; ((with_reducible refine (HN.out _ _ _ _).mono ?_); rintro e w5 ⟨rfl, hg5⟩; have HY := Lib.hid (HY.out.next hg5); have HG := Lib.hid (grown_trans HG.out hg5); have HB := Lib.hid (row_grown HB.out hg5); obtain ⟨r0, r1, r2, r3, r4⟩ := cells5 HB.out; have fz := frz HB.out; clear hg5)))
  go_wp2_with fail
  refine ret1 (c := ⟨op, nr la ha a, nr lb hb b, nr lc hc' c, nr ln hn n⟩) rfl (by rfl) (set5 HB.out _ _ _ _ _) ?_
  exact ⟨rfl, grown_set (grown_set (grown_set (grown_set (grown_set HG.out _ _ (by omega) _) _ _ (by omega) _) _ _ (by omega) _) _ _ (by omega) _) _ _ (by omega) _⟩

theorem stoodC : Tryd.prog.stoodInHeld 28 = false := by kernel_rfl
theorem fieldsC : Tryd.prog.underlying 28 = some (.struct (Tryd.prog.fieldsOf 28)) := by kernel_rfl
theorem eqIk (k : Nat) (hk : 1 ≤ k) (w : World) (t : TypeId) (q : IntKind) (a b : Int) (h : Tryd.prog.underlying t = some (.int q)) : (Op.equalIn k t (.int q a) (.int q b)).run Tryd.prog w = .ok (a == b) w := by
  obtain ⟨d, rfl⟩ : ∃ d, k = d + 1 := ⟨k - 1, by omega⟩
  exact run_equalIn_int w d t q q a b h
theorem eqCk (k : Nat) (hk : 3 ≤ k) (w : World) (c d : Cd) : (Op.equalIn k 28 (.agg (ca c)) (.agg (ca d))).run Tryd.prog w = .ok (decide (c = d)) w := by
  obtain ⟨n, rfl⟩ : ∃ n, k = n + 1 := ⟨k - 1, by omega⟩
  rw [run_equalIn_agg w n 28 _ _ fieldsC stoodC]
  simp only [Program.fieldsOf, Tryd.underlying28]
  have p0 : ∀ x : Cd, (part 5 (ca x) 0).run Tryd.prog w = .ok (.int .u8 (x.op : Int)) w := fun x => by simp [ca, part, isAgg, run_underlying Tryd.underlying5]
  have p1 : ∀ x : Cd, (part 3 (ca x) 1).run Tryd.prog w = .ok (.int .i64 x.a) w := fun x => by simp [ca, part, isAgg, run_underlying Tryd.underlying3]
  have p2 : ∀ x : Cd, (part 3 (ca x) 2).run Tryd.prog w = .ok (.int .i64 x.b) w := fun x => by simp [ca, part, isAgg, run_underlying Tryd.underlying3]
  have p3 : ∀ x : Cd, (part 3 (ca x) 3).run Tryd.prog w = .ok (.int .i64 x.c) w := fun x => by simp [ca, part, isAgg, run_underlying Tryd.underlying3]
  have p4 : ∀ x : Cd, (part 3 (ca x) 4).run Tryd.prog w = .ok (.int .i64 x.n) w := fun x => by simp [ca, part, isAgg, run_underlying Tryd.underlying3]
  have e0 := eqIk n (by omega) w 5 .u8 (c.op : Int) (d.op : Int) Tryd.underlying5
  have e1 := eqIk n (by omega) w 3 .i64 c.a d.a Tryd.underlying3
  have e2 := eqIk n (by omega) w 3 .i64 c.b d.b Tryd.underlying3
  have e3 := eqIk n (by omega) w 3 .i64 c.c d.c Tryd.underlying3
  have e4 := eqIk n (by omega) w 3 .i64 c.n d.n Tryd.underlying3
  simp [Op.eqFields, Sem.run_bind, p0, p1, p2, p3, p4, e0, e1, e2, e3, e4]
  have hd : (c = d) ↔ ((c.op : Int) = (d.op : Int) ∧ c.a = d.a ∧ c.b = d.b ∧ c.c = d.c ∧ c.n = d.n) := by
    obtain ⟨c0, c1, c2, c3, c4⟩ := c
    obtain ⟨d0, d1, d2, d3, d4⟩ := d
    simp only [Cd.mk.injEq]
    exact ⟨fun h => ⟨by omega, h.2⟩, fun h => ⟨by omega, h.2⟩⟩
  have hd2 : decide (c = d) = decide ((c.op : Int) = (d.op : Int) ∧ c.a = d.a ∧ c.b = d.b ∧ c.c = d.c ∧ c.n = d.n) := decide_eq_decide.2 hd
  rw [hd2]
  clear hd hd2
  repeat' split
  all_goals simp_all
theorem eqC (w : World) (c d : Cd) : (binOp .eql 28 (.agg (ca c)) (.agg (ca d))).run Tryd.prog w = .ok (.bool (decide (c = d))) w := by
  rw [run_eql_struct, eqCk 10000 (by omega) w c d]
  rfl
theorem neC (w : World) (c d : Cd) : (binOp .neq 28 (.agg (ca c)) (.agg (ca d))).run Tryd.prog w = .ok (.bool (!decide (c = d))) w := by
  rw [run_neq_struct, eqCk 10000 (by omega) w c d]
  rfl

/-- May it be? -/
def may (c : Cd) : Bool := decide (c.op < 22 ∧ c = wh c)
def err (b : Bool) : Int := if b then 0 else 2
theorem may_big (c : Cd) (w : World) (ho : ¬ c.op < 22) (h8 : c.op < 256) : Calls Tryd.prog 17 #[.agg (ca c)] w fun e w' => e = .returned (.int .i64 (err (may c))) ∧ w.grownBy w' none := by
  rw [show may c = false from decide_eq_false (fun h => ho h.1)]
  obtain ⟨op, a, b, c, n⟩ := c
  have ho : ¬ op < 22 := ho
  have h8 : op < 256 := h8
  have g1 : decide ((22 : Int) ≤ (op : Int)) = true := decide_eq_true (by omega)
  unfold ca
  have HG : Hid (w.grownBy (w.alloc (.cells #[.int .u8 (op : Int), .int .i64 a, .int .i64 b, .int .i64 c, .int .i64 n] 28)) none) := Lib.hid (grown_alloc (grown_refl _ _) _)
  go_enter Tryd.func17, Tryd.ntmps17
  go_wp2_with fail
  go_quiet (fail)
  go_wp2_with fail
  go_ret
  exact ⟨rfl, grown_drewN HG.out _⟩
theorem may_small (c : Cd) (w : World) (hT : Tab w) (ho : c.op < 22) : Calls Tryd.prog 17 #[.agg (ca c)] w fun e w' => e = .returned (.int .i64 (err (may c))) ∧ w.grownBy w' none := by
  have hm : may c = decide (c = wh c) := by unfold may; simp [ho]
  have HE : Hid (∀ w, _) := Lib.hid fun w => neC w c (wh c)
  have HG : Hid (w.grownBy (w.alloc (.cells (ca c) 28)) none) := Lib.hid (grown_alloc (grown_refl _ _) _)
  have HW : Hid (∀ w', w.grownBy w' none → _) := Lib.hid fun w' h => whole_any c w' (hT.grown h) ho
  have HA := Lib.hid (fun w' (h : (w.alloc (.cells (ca c) 28)).grownBy w' none) => cells5 (row_grown (heap_alloc_new w (.cells (ca c) 28)) h))
  rw [hm]
  obtain ⟨d, hd⟩ : ∃ d, d = wh c := ⟨_, rfl⟩
  rw [← hd] at HE HW ⊢
  clear hd hm hT
  obtain ⟨op, a, b, c, n⟩ := c
  obtain ⟨op', a', b', c', n'⟩ := d
  have ho : op < 22 := ho
  obtain ⟨z, hz⟩ : ∃ z, z = decide ((⟨op, a, b, c, n⟩ : Cd) = ⟨op', a', b', c', n'⟩) := ⟨_, rfl⟩
  rw [← hz] at HE ⊢
  clear hz
  unfold ca at *
  have he := HE.out
  have g1 : decide ((22 : Int) ≤ (op : Int)) = false := decide_eq_false (by omega)
  go_enter Tryd.func17, Tryd.ntmps17
  go_wp2_with fail
  go_region_held3 (fun w' => (w'.cell? ⟨w.heap.size, 0, none⟩ = some (.int .u8 (op : Int)) ∧ w'.cell? ⟨w.heap.size, 1, none⟩ = some (.int .i64 a) ∧ w'.cell? ⟨w.heap.size, 2, none⟩ = some (.int .i64 b) ∧ w'.cell? ⟨w.heap.size, 3, none⟩ = some (.int .i64 c) ∧ w'.cell? ⟨w.heap.size, 4, none⟩ = some (.int .i64 n)))
    (first | (with_reducible exact HA.out _ (grown_refl _ _)) | (with_reducible exact HA.out _ (grown_drew (grown_refl _ _))) | (with_reducible exact HA.out _ HG5.out))
    (first | (go_at_call 22; ((with_reducible refine (HW.out _ (grown_drew HG.out)).mono ?_); rintro e w5 ⟨rfl, hg5⟩; have HG5 := Lib.hid (grown_trans (grown_drew (grown_refl (w.alloc _) none)) hg5); clear hg5)))
  cases z
  · go_wp2_with fail
    go_ret
    exact ⟨rfl, grown_trans HG.out HG5.out⟩
  · go_wp2_with fail
    go_ret
    exact ⟨rfl, grown_trans HG.out HG5.out⟩
theorem may_any (c : Cd) (w : World) (hT : Tab w) (h8 : c.op < 256) : Calls Tryd.prog 17 #[.agg (ca c)] w fun e w' => e = .returned (.int .i64 (err (may c))) ∧ w.grownBy w' none := by
  by_cases h : c.op < 22
  · exact may_small c w hT h
  · exact may_big c w h h8
end Go.Proofs.YtmfckkioccmblaaDoor.cd
