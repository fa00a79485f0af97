/-
  What the listed variable (the table of bounds) gives a walk: its cells; that the heap which the program's own initialiser leaves meets the condition; how a plan, a script, ints as arguments read. No condition.
-/
import Derived.Test.YtfjjmlmkpdpdfaaDoorUdJ
import Derived.Test.YtfjjmlmkpdpdfaaDoorRows
import Derived.ProofKit
import Derived.Deep.Grids
import Derived.LaidMore
import Derived.OpenShut
import Derived.Stop.Joined
namespace Go.Proofs.YtfjjmlmkpdpdfaaDoor.ud
open Go Go.ChangeShapes Go.WideShapes Go.ChangeAt Go.RowKit
open Go.Proofs.YtfjjmlmkpdpdfaaDoor.tt (Cfg Tab lows highs powers)
open Go.Proofs.YtfjjmlmkpdpdfaaDoor.pp (add_lit)
set_option linter.unusedVariables false

def laid1 : List (String × DataW Unit) := Rows.undoKnownRow.laid
theorem own : ownKnob Tryd.prog.godebug = none := by kernel_rfl
theorem gTab : (laid1.head?.bind fun x => Tryd.prog.globalNamed x.1) = some 0 := by kernel_rfl
theorem tTab : (Tryd.prog.globals[0]?).map (·.type) = some 99 := by kernel_rfl

theorem door_met (os : Os) (args : Array Value) : laidMetH Tryd.prog laid1 ((World.doorLaid Tryd.prog 400 os).forCall (fun _ _ => 0) ⟨#[], args, []⟩).memory :=
  laidMetH_of_parts3 (fuel := 8) (laidMet_of_run' 8 (by kernel_rfl) (by kernel_rfl)) (by kernel_rfl) (by kernel_rfl)

theorem cells3 : Tryd.prog.cellsOf 3 = 1 := by kernel_rfl
theorem cells4 : Tryd.prog.cellsOf 4 = 1 := by kernel_rfl
theorem cellsB : Tryd.prog.cellsOf 98 = 3 := by kernel_rfl
theorem cellsC : Tryd.prog.cellsOf 30 = 8 := by kernel_rfl

def bounds : List (DataW Unit) := (List.range 8).map fun k => .agg [.lit (.int .i64 (lows.getD k 0)), .lit (.int .i64 (highs.getD k 0)), .lit (.bool (powers.getD k false))]
theorem datum : (Rows.laid_undertow_plan_bounds : DataW Unit) = .agg bounds := by rfl

theorem one_cell {cs : List Value} {n : Nat} {v : Value} (h : (cs.drop n).take 1 = [v]) : cs[n]? = some v := by
  have := congrArg (fun l : List Value => l[0]?) h
  simpa [List.getElem?_take, List.getElem?_drop] using this

theorem tab_of_laid {W : World} (h : laidMetH Tryd.prog laid1 W) : Tab W := by
  rw [MakeChecks.laidMetH_plain _ _ _ (by kernel_rfl)] at h
  obtain ⟨ps, ⟨g0, t0, cs0, f0, p0, q0, hg0, ht0, hv0, hd0, _, _⟩, _⟩ := h
  obtain rfl := Option.some.inj (gTab.symm.trans hg0)
  obtain rfl := Option.some.inj (tTab.symm.trans ht0)
  obtain ⟨xs, m1, rfl, hx1, hlen, hn3, hel⟩ := DataW.trod_array Tryd.underlying99 hd0
  rw [datum] at hx1
  simp only [Prod.mk.injEq, DataW.agg.injEq] at hx1
  rw [cellsB] at hel
  intro k hk
  have h0 := hel k hk
  have hxk : xs[k]? = some xs[k] := List.getElem?_eq_getElem (by omega)
  rw [hxk] at h0
  obtain ⟨ys, n, _, hy, _, hyl, hf⟩ := DataW.trod_struct Tryd.underlying98 h0
  match ys, hyl with
  | [y0, y1, y2], _ =>
    have e0 := hf 0 _ rfl
    have e1 := hf 1 _ rfl
    have e2 := hf 2 _ rfl
    dsimp at e0 e1 e2
    rw [cells3] at e0 e1
    rw [cells4] at e2
    obtain ⟨z0, a0, b0, _⟩ := DataW.trod_int Tryd.underlying3 e0
    obtain ⟨z1, a1, b1, _⟩ := DataW.trod_int Tryd.underlying3 e1
    obtain ⟨z2, a2, b2⟩ := DataW.trod_bool Tryd.underlying4 e2
    subst b0 b1 b2
    have hmk : (xs.map (·.1))[k]? = some xs[k].1 := by rw [List.getElem?_map, hxk]; rfl
    rw [← hx1.1, hy] at hmk
    have hb : bounds[k]? = some (.agg [.lit (.int .i64 (lows.getD k 0)), .lit (.int .i64 (highs.getD k 0)), .lit (.bool (powers.getD k false))]) := by
      unfold bounds
      rw [List.getElem?_map, List.getElem?_range hk]; rfl
    rw [hb] at hmk
    simp at hmk
    obtain ⟨rfl, rfl, rfl⟩ := hmk
    have hv := World.var?_cell hg0 hv0
    have c0 := one_cell a0
    have c1 := one_cell a1
    have c2 := one_cell a2
    simp only [List.getElem?_take, List.getElem?_drop, Array.getElem?_toList] at c0 c1 c2
    refine ⟨(hv _).trans ?_, (hv _).trans ?_, (hv _).trans ?_⟩
    · simpa using c0
    · simpa using c1
    · simpa using c2

section
variable {H : Type} {enc : TypeId × Value → H} {W : World} {d : DataW H} {p : List MemPlace}

def cdatum (c : Cfg) : DataW H := .agg [.lit (.int .i64 c.co), .lit (.int .i64 c.se), .lit (.int .i64 c.wa), .lit (.int .i64 c.bl), .lit (.int .i64 c.lo), .lit (.int .i64 c.ba), .lit (.int .i64 c.ne), .lit (.int .i64 c.tr)]
structure CWf (c : Cfg) : Prop where
  co : (Lit.int .i64 c.co).wf = true
  se : (Lit.int .i64 c.se).wf = true
  wa : (Lit.int .i64 c.wa).wf = true
  bl : (Lit.int .i64 c.bl).wf = true
  lo : (Lit.int .i64 c.lo).wf = true
  ba : (Lit.int .i64 c.ba).wf = true
  ne : (Lit.int .i64 c.ne).wf = true
  tr : (Lit.int .i64 c.tr).wf = true

set_option maxRecDepth 100000 in
theorem cfg_open {v : Value} {base : Nat} (hv : Value.okWide Tryd.prog W .any base 30 v) (h : DataW.Trod enc Tryd.prog W 0 (fun _ => true) true 30 v d p) :
    ∃ c : Cfg, v = .agg c.cells ∧ d = (cdatum c) ∧ p = [] ∧ (CWf c) := by
  unfold Value.okWide at hv
  rw [Tryd.underlying30] at hv
  obtain ⟨cs, rfl, hsz, _⟩ := hv
  rw [cellsC] at hsz
  obtain ⟨fuel, hf⟩ := h
  obtain ⟨ys, m, _, hx, _, hyl, hat⟩ := DataW.trod_struct Tryd.underlying30 hf
  obtain ⟨l⟩ := cs
  match l, hsz, ys, hyl with
  | [v0, v1, v2, v3, v4, v5, v6, v7], _, [y0, y1, y2, y3, y4, y5, y6, y7], _ =>
    have e0 := hat 0 _ rfl
    have e1 := hat 1 _ rfl
    have e2 := hat 2 _ rfl
    have e3 := hat 3 _ rfl
    have e4 := hat 4 _ rfl
    have e5 := hat 5 _ rfl
    have e6 := hat 6 _ rfl
    have e7 := hat 7 _ rfl
    dsimp [Value.cells] at e0 e1 e2 e3 e4 e5 e6 e7
    rw [cells3] at e0 e1 e2 e3 e4 e5 e6 e7
    obtain ⟨z0, a0, b0, w0⟩ := DataW.trod_int Tryd.underlying3 e0
    obtain ⟨z1, a1, b1, w1⟩ := DataW.trod_int Tryd.underlying3 e1
    obtain ⟨z2, a2, b2, w2⟩ := DataW.trod_int Tryd.underlying3 e2
    obtain ⟨z3, a3, b3, w3⟩ := DataW.trod_int Tryd.underlying3 e3
    obtain ⟨z4, a4, b4, w4⟩ := DataW.trod_int Tryd.underlying3 e4
    obtain ⟨z5, a5, b5, w5⟩ := DataW.trod_int Tryd.underlying3 e5
    obtain ⟨z6, a6, b6, w6⟩ := DataW.trod_int Tryd.underlying3 e6
    obtain ⟨z7, a7, b7, w7⟩ := DataW.trod_int Tryd.underlying3 e7
    simp at a0 a1 a2 a3 a4 a5 a6 a7
    subst a0 a1 a2 a3 a4 a5 a6 a7 b0 b1 b2 b3 b4 b5 b6 b7
    simp at hx
    exact ⟨⟨z0, z1, z2, z3, z4, z5, z6, z7⟩, rfl, hx.1, hx.2, ⟨w0, w1, w2, w3, w4, w5, w6, w7⟩⟩

set_option maxRecDepth 100000 in
theorem cfg_shut {base : Nat} {sp : Nat → Bool} {held : Bool} {c : Cfg} (h : (CWf c)) : DataW.Trod enc Tryd.prog W base sp held 30 (.agg c.cells) (cdatum c) [] := by
  refine ⟨2, ?_⟩
  have := trod_struct_mk (enc := enc) (w := W) (base := base) (spare := sp) (held := held) (n := 1) (cs := c.cells.toList) (xs := [(.lit (.int .i64 c.co), []), (.lit (.int .i64 c.se), []), (.lit (.int .i64 c.wa), []), (.lit (.int .i64 c.bl), []), (.lit (.int .i64 c.lo), []), (.lit (.int .i64 c.ba), []), (.lit (.int .i64 c.ne), []), (.lit (.int .i64 c.tr), [])]) Tryd.underlying30 (by rw [cellsC]; rfl) (by
    simp [Cfg.cells, cells3, trod_int_mk 0 Tryd.underlying3 h.co, trod_int_mk 0 Tryd.underlying3 h.se, trod_int_mk 0 Tryd.underlying3 h.wa, trod_int_mk 0 Tryd.underlying3 h.bl, trod_int_mk 0 Tryd.underlying3 h.lo, trod_int_mk 0 Tryd.underlying3 h.ba, trod_int_mk 0 Tryd.underlying3 h.ne, trod_int_mk 0 Tryd.underlying3 h.tr])
  simpa [Value.cells, cdatum] using this
end

theorem post_below {H : Type} {enc : TypeId × Value → H} {P : Program} {f : Func} {s : ChangeSpec} {apart fresh handsOn : Bool} {W W' : World} {args : Array Value} {v : Value} {ds gs : List (DataW H)} {before pa pv : List MemPlace}
    (hW : DataW.Whole enc P f.params.toList s.vars apart W args.toList ds gs before)
    (hres : ∀ (b : Nat) (sp : Nat → Bool), DataW.TrodAll enc P W' b sp handsOn f.resultTypes.toList (v.resultList f.resultTypes.size) (s.fn H (ds ++ gs)).results [])
    (hargs : ∀ sp : Nat → Bool, (∀ p ∈ before, sp p.block = true) → DataW.TrodAll enc P W' 0 sp true f.params.toList args.toList (s.fn H (ds ++ gs)).args pa)
    (hvars : ∀ sp : Nat → Bool, (∀ p ∈ before, sp p.block = true) → DataW.TrodVars enc P W' sp s.vars (s.fn H (ds ++ gs)).vars pv)
    (hps : before = pa ++ pv) (hk : W.keptBut W' (· ∈ before)) : s.post enc P f apart fresh handsOn false W args v W' := by
  have hold : ∀ p ∈ before, (fun b => decide (b < W.heap.size)) p.block = true := fun p hp => by simpa using hW.lt p hp
  refine ⟨ds, gs, before, [], pa, pv, hW, hres _ _, hargs _ hold, hvars _ hold, World.keptBut_mono (fun p hp => ⟨hp, ?_⟩) hk, fun h => by cases h⟩
  rw [hps, List.mem_append] at hp
  exact Or.inr hp

theorem below_of {w w' : World} (h : w.grownBy w' none) : Below w.heap.size w w' := ⟨h.os, h.tape, h.output, h.size, fun k hk => h.block k hk (by simp)⟩

theorem laidOut : laidOutB Tryd.prog = true := by kernel_rfl
theorem cellsU : Tryd.prog.cellsOf 34 = 1 := by kernel_rfl
theorem uO : (Tryd.prog.underlying 49).map (fun d => match d with | .struct fs => fs.toList.map (fun f => (f.type, f.offset)) | _ => []) = some [(3, 0), (3, 1), (34, 2), (34, 3)] := by kernel_rfl
theorem cellsO : Tryd.prog.cellsOf 49 = 4 := by kernel_rfl
set_option maxRecDepth 100000 in
theorem fieldsO : ∃ f0 f1 f2 f3 : Field, Tryd.prog.underlying 49 = some (.struct #[f0, f1, f2, f3]) ∧ (f0.type = 3 ∧ f0.offset = 0) ∧ (f1.type = 3 ∧ f1.offset = 1) ∧ (f2.type = 34 ∧ f2.offset = 2) ∧ (f3.type = 34 ∧ f3.offset = 3) := by
  have h := uO
  cases hu : Tryd.prog.underlying 49 with
  | none => rw [hu] at h; simp at h
  | some d =>
    rw [hu] at h
    cases d with
    | struct fs =>
      simp at h
      obtain ⟨l⟩ := fs
      match l, h with
      | [f0, f1, f2, f3], h =>
        simp at h
        exact ⟨f0, f1, f2, f3, rfl, h.1, h.2.1, h.2.2.1, h.2.2.2⟩
    | _ => simp at h

set_option maxRecDepth 100000 in
theorem ops_at {H : Type} {enc : TypeId × Value → H} {W : World} {d : DataW H} {p : List MemPlace} {a0 : Option Addr} {len cap : Nat} (h : DataW.Trod enc Tryd.prog W 0 (fun _ => true) true 41 (.slice a0 len cap) d p) : ∃ os : List OpX, len = os.length ∧ OpsAt W a0 os ∧ Rng os := by
  obtain ⟨fuel, hf⟩ := h
  obtain ⟨f0, f1, f2, f3, hu, ⟨t0, o0⟩, ⟨t1, o1⟩, ⟨t2, o2⟩, ⟨t3, o3⟩⟩ := fieldsO
  rcases Go.Deep.open_slice Tryd.underlying41 hf with ⟨hcs, hx⟩ | ⟨a, len', cap', m, n, D, Pl, hcs, _, hl, hm, hmm, hx, hcell⟩
  · simp [Value.cells] at hcs
    obtain ⟨rfl, rfl, rfl⟩ := hcs
    exact ⟨[], rfl, fun k x hk => by simp at hk, fun x hx => by simp at hx⟩
  · simp [Value.cells] at hcs
    obtain ⟨rfl, rfl, rfl⟩ := hcs
    simp only [if_true] at hmm
    subst hmm
    have each : ∀ i, i < len → ∃ q : OpX, ((W.cell? (a.add (i * 4)) = some (.int .i64 q.kd) ∧ W.cell? (a.add (i * 4 + 1)) = some (.int .i64 q.i) ∧ W.cell? (a.add (i * 4 + 2)) = some (.int .u32 q.a) ∧ W.cell? (a.add (i * 4 + 3)) = some (.int .u32 q.o)) ∧ 0 ≤ q.a ∧ q.a < 4294967296) := by
      intro i hi
      obtain ⟨cs', h1, h2⟩ := hcell i (by omega)
      rw [cellsO] at h1
      obtain ⟨_, hlen, hc⟩ := World.cells?_some h1
      obtain ⟨xs, k, hk, hxy, _, hxl, hf⟩ := DataW.trod_struct hu h2
      match xs, hxl, cs', hlen with
      | [y0, y1, y2, y3], _, [v0, v1, v2, v3], _ =>
        have g0 := hf 0 f0 rfl
        have g1 := hf 1 f1 rfl
        have g2 := hf 2 f2 rfl
        have g3 := hf 3 f3 rfl
        simp [o0, o1, o2, o3, t0, t1, t2, t3, cells3, cellsU] at g0 g1 g2 g3
        obtain ⟨z0, e0, _, w0⟩ := DataW.trod_int Tryd.underlying3 g0
        obtain ⟨z1, e1, _, w1⟩ := DataW.trod_int Tryd.underlying3 g1
        obtain ⟨z2, e2, _, w2⟩ := DataW.trod_int Tryd.underlying34 g2
        obtain ⟨z3, e3, _, w3⟩ := DataW.trod_int Tryd.underlying34 g3
        cases e0; cases e1; cases e2; cases e3
        have hb := bounds_u32 w2
        have c0 := hc 0 (by omega)
        have c1 := hc 1 (by omega)
        have c2 := hc 2 (by omega)
        have c3 := hc 3 (by omega)
        rw [Go.Deep.add_add] at c0 c1 c2 c3
        exact ⟨⟨z0, z1, z2, z3⟩, ⟨by simpa using c0, by simpa using c1, by simpa using c2, by simpa using c3⟩, by show 0 ≤ z2; omega, by show z2 < 4294967296; omega⟩
    obtain ⟨q, hq⟩ := Go.Deep.choose_lt each
    refine ⟨(List.range len).map q, by simp, fun k x hk => ?_, fun x hx => ?_⟩
    · rw [List.getElem?_map, Option.map_eq_some_iff] at hk
      obtain ⟨y, hy, rfl⟩ := hk
      obtain ⟨hy1, hy2⟩ := List.getElem?_eq_some_iff.1 hy
      simp at hy1 hy2
      subst hy2
      obtain ⟨⟨c0, c1, c2, c3⟩, _⟩ := hq k hy1
      obtain ⟨⟨z0, _⟩, _⟩ := hq 0 (by omega)
      obtain ⟨b, off, spot⟩ := a
      have hspot : spot = none := by simpa [Addr.add] using World.cell?_spot z0
      subst hspot
      rw [add_lit] at c0 c1 c2 c3
      exact ⟨b, off, rfl, c0, by rw [Nat.add_assoc]; exact c1, by rw [Nat.add_assoc]; exact c2, by rw [Nat.add_assoc]; exact c3⟩
    · obtain ⟨y, hy, rfl⟩ := List.mem_map.1 hx
      exact (hq y (List.mem_range.1 hy)).2
theorem uW : (Tryd.prog.underlying 62).map (fun d => match d with | .struct fs => fs.toList.map (fun f => (f.type, f.offset)) | _ => []) = some [(3, 0), (3, 1), (34, 2)] := by kernel_rfl
theorem cellsW : Tryd.prog.cellsOf 62 = 3 := by kernel_rfl
set_option maxRecDepth 100000 in
theorem fieldsW : ∃ f0 f1 f2 : Field, Tryd.prog.underlying 62 = some (.struct #[f0, f1, f2]) ∧ (f0.type = 3 ∧ f0.offset = 0) ∧ (f1.type = 3 ∧ f1.offset = 1) ∧ (f2.type = 34 ∧ f2.offset = 2) := by
  have h := uW
  cases hu : Tryd.prog.underlying 62 with
  | none => rw [hu] at h; simp at h
  | some d =>
    rw [hu] at h
    cases d with
    | struct fs =>
      simp at h
      obtain ⟨l⟩ := fs
      match l, h with
      | [f0, f1, f2], h =>
        simp at h
        exact ⟨f0, f1, f2, rfl, h.1, h.2.1, h.2.2⟩
    | _ => simp at h

set_option maxRecDepth 100000 in
theorem wrs_at {H : Type} {enc : TypeId × Value → H} {W : World} {d : DataW H} {p : List MemPlace} {a0 : Option Addr} {len cap : Nat} (h : DataW.Trod enc Tryd.prog W 0 (fun _ => true) true 60 (.slice a0 len cap) d p) : ∃ os : List Wr, len = os.length ∧ WrAt W a0 os := by
  obtain ⟨fuel, hf⟩ := h
  obtain ⟨f0, f1, f2, hu, ⟨t0, o0⟩, ⟨t1, o1⟩, ⟨t2, o2⟩⟩ := fieldsW
  rcases Go.Deep.open_slice Tryd.underlying60 hf with ⟨hcs, hx⟩ | ⟨a, len', cap', m, n, D, Pl, hcs, _, hl, hm, hmm, hx, hcell⟩
  · simp [Value.cells] at hcs
    obtain ⟨rfl, rfl, rfl⟩ := hcs
    exact ⟨[], rfl, fun k x hk => by simp at hk⟩
  · simp [Value.cells] at hcs
    obtain ⟨rfl, rfl, rfl⟩ := hcs
    simp only [if_true] at hmm
    subst hmm
    have each : ∀ i, i < len → ∃ q : Wr, ((W.cell? (a.add (i * 3)) = some (.int .i64 q.b) ∧ W.cell? (a.add (i * 3 + 1)) = some (.int .i64 q.k) ∧ W.cell? (a.add (i * 3 + 2)) = some (.int .u32 q.x))) := by
      intro i hi
      obtain ⟨cs', h1, h2⟩ := hcell i (by omega)
      rw [cellsW] at h1
      obtain ⟨_, hlen, hc⟩ := World.cells?_some h1
      obtain ⟨xs, k, hk, hxy, _, hxl, hf⟩ := DataW.trod_struct hu h2
      match xs, hxl, cs', hlen with
      | [y0, y1, y2], _, [v0, v1, v2], _ =>
        have g0 := hf 0 f0 rfl
        have g1 := hf 1 f1 rfl
        have g2 := hf 2 f2 rfl
        simp [o0, o1, o2, t0, t1, t2, cells3, cellsU] at g0 g1 g2
        obtain ⟨z0, e0, _, w0⟩ := DataW.trod_int Tryd.underlying3 g0
        obtain ⟨z1, e1, _, w1⟩ := DataW.trod_int Tryd.underlying3 g1
        obtain ⟨z2, e2, _, w2⟩ := DataW.trod_int Tryd.underlying34 g2
        cases e0; cases e1; cases e2
        have c0 := hc 0 (by omega)
        have c1 := hc 1 (by omega)
        have c2 := hc 2 (by omega)
        rw [Go.Deep.add_add] at c0 c1 c2
        exact ⟨⟨z0, z1, z2⟩, by simpa using c0, by simpa using c1, by simpa using c2⟩
    obtain ⟨q, hq⟩ := Go.Deep.choose_lt each
    refine ⟨(List.range len).map q, by simp, fun k x hk => ?_⟩
    rw [List.getElem?_map, Option.map_eq_some_iff] at hk
    obtain ⟨y, hy, rfl⟩ := hk
    obtain ⟨hy1, hy2⟩ := List.getElem?_eq_some_iff.1 hy
    simp at hy1 hy2
    subst hy2
    obtain ⟨c0, c1, c2⟩ := hq k hy1
    obtain ⟨z0, _⟩ := hq 0 (by omega)
    obtain ⟨b, off, spot⟩ := a
    have hspot : spot = none := by simpa [Addr.add] using World.cell?_spot z0
    subst hspot
    rw [add_lit] at c0 c1 c2
    exact ⟨b, off, rfl, c0, by rw [Nat.add_assoc]; exact c1, by rw [Nat.add_assoc]; exact c2⟩
end Go.Proofs.YtfjjmlmkpdpdfaaDoor.ud
