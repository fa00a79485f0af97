/-
  What the listed variables (the tables of forms and of what these use) give a walk: their cells; that the heap which the program's own initialiser leaves meets the condition; how an instruction as an argument reads. No condition.
-/
import Derived.Test.YtmfckkioccmblaaDoorCdB
import Derived.ProofKit
import Derived.LaidMore
import Derived.OpenShut
import Derived.Stop.Joined
import Derived.Deep.Grids
namespace Go.Proofs.YtmfckkioccmblaaDoor.cd
open Go Go.ChangeShapes Go.WideShapes Go.ChangeAt Go.RowKit
set_option linter.unusedVariables false

def laid1 : List (String × DataW Unit) := Rows.stepKnownRow.laid
theorem own : ownKnob Tryd.prog.godebug = none := by kernel_rfl
theorem laidOut : laidOutB Tryd.prog = true := by kernel_rfl
theorem gForms : (laid1.head?.bind fun x => Tryd.prog.globalNamed x.1) = some 1 := by kernel_rfl
theorem gUses : ((laid1.drop 1).head?.bind fun x => Tryd.prog.globalNamed x.1) = some 0 := by kernel_rfl
theorem tForms : (Tryd.prog.globals[1]?).map (·.type) = some 54 := by kernel_rfl
theorem tUses : (Tryd.prog.globals[0]?).map (·.type) = some 52 := by kernel_rfl
theorem door_met (os : Os) (args : Array Value) : laidMetH Tryd.prog laid1 ((World.doorLaid Tryd.prog 400 os).forCall (fun _ _ => 0) ⟨#[], args, []⟩).memory :=
  laidMetH_of_parts3 (fuel := 8) (laidMet_of_run' 8 (by kernel_rfl) (by kernel_rfl)) (by kernel_rfl) (by kernel_rfl)
theorem cellsI : Tryd.prog.cellsOf 3 = 1 := by kernel_rfl
theorem cellsB8 : Tryd.prog.cellsOf 5 = 1 := by kernel_rfl
theorem cellsF : Tryd.prog.cellsOf 53 = 1 := by kernel_rfl
theorem cellsBd : Tryd.prog.cellsOf 49 = 2 := by kernel_rfl
theorem cellsU : Tryd.prog.cellsOf 51 = 8 := by kernel_rfl
theorem cellsC : Tryd.prog.cellsOf 28 = 5 := by kernel_rfl

def fdata : List (DataW Unit) := (List.range 22).map fun k => .lit (.int .u8 (fm k : Int))
theorem fdatum : (Rows.laid_undertow_code_forms : DataW Unit) = .agg fdata := by rfl
def bdat (l h : Int) : DataW Unit := .agg [.lit (.int .i64 l), .lit (.int .i64 h)]
def udata : List (DataW Unit) := (List.range 7).map fun f => .agg [bdat (us f).la (us f).ha, bdat (us f).lb (us f).hb, bdat (us f).lc (us f).hc, bdat (us f).ln (us f).hn]
theorem udatum : (Rows.laid_undertow_code_uses : DataW Unit) = .agg udata := by rfl
theorem one_cell {cs : List Value} {n : Nat} {v : Value} (h : (cs.drop n).take 1 = [v]) : cs[n]? = some v := by
  have := congrArg (fun l : List Value => l[0]?) h
  simpa [List.getElem?_take, List.getElem?_drop] using this
theorem forms_of_laid {W : World} (h : laidMetH Tryd.prog laid1 W) : ∀ k, k < 22 → W.cell? ⟨1, k, none⟩ = some (.int .u8 (fm k : Int)) := by
  rw [MakeChecks.laidMetH_plain _ _ _ (by kernel_rfl)] at h
  obtain ⟨ps, ⟨g0, t0, cs0, f0, p0, q0, hg0, ht0, hv0, hd0, _⟩, _⟩ := h
  obtain rfl := Option.some.inj (gForms.symm.trans hg0)
  obtain rfl := Option.some.inj (tForms.symm.trans ht0)
  obtain ⟨xs, m1, rfl, hx1, hlen, hn3, hel⟩ := DataW.trod_array Tryd.underlying54 hd0
  rw [fdatum] at hx1
  simp only [Prod.mk.injEq, DataW.agg.injEq] at hx1
  rw [cellsF] at hel
  intro k hk
  have h0 := hel k hk
  have hxk : xs[k]? = some xs[k] := List.getElem?_eq_getElem (by omega)
  rw [hxk] at h0
  obtain ⟨z0, a0, b0, _⟩ := DataW.trod_int Tryd.underlying53 h0
  have hmk : (xs.map (·.1))[k]? = some xs[k].1 := by rw [List.getElem?_map, hxk]; rfl
  have hb : fdata[k]? = some (.lit (.int .u8 (fm k : Int))) := by
    unfold fdata
    rw [List.getElem?_map, List.getElem?_range hk]; rfl
  rw [← hx1.1, hb, b0] at hmk
  simp at hmk
  have hv := World.var?_cell hg0 hv0
  have c0 := one_cell a0
  simp only [Array.getElem?_toList] at c0
  refine (hv _).trans ?_
  rw [Nat.mul_one] at c0
  rw [hmk]
  simpa using c0
/-- A pair of bounds. -/
theorem bd_open {W : World} {H : Type} {enc : TypeId × Value → H} {w : World} {b n : Nat} {sp : Nat → Bool} {hl : Bool} {L : List Value} {y : DataW H × List MemPlace} (h : DataW.trod enc Tryd.prog w b sp hl n 49 L = some y) :
    ∃ l u : Int, L[0]? = some (.int .i64 l) ∧ L[1]? = some (.int .i64 u) ∧ y.1 = .agg [.lit (.int .i64 l), .lit (.int .i64 u)] := by
  obtain ⟨ys, m, _, hy, _, hyl, hf⟩ := DataW.trod_struct Tryd.underlying49 h
  match ys, hyl with
  | [y0, y1], _ =>
    have e0 := hf 0 _ rfl
    have e1 := hf 1 _ rfl
    dsimp at e0 e1
    rw [cellsI] at e0 e1
    obtain ⟨z0, a0, b0, _⟩ := DataW.trod_int Tryd.underlying3 e0
    obtain ⟨z1, a1, b1, _⟩ := DataW.trod_int Tryd.underlying3 e1
    subst b0 b1
    exact ⟨z0, z1, one_cell (n := 0) a0, one_cell a1, by rw [hy]; rfl⟩
theorem uses_of_laid {W : World} (h : laidMetH Tryd.prog laid1 W) : ∀ f, f < 7 → (W.cell? ⟨0, f * 8, none⟩ = some (.int .i64 (us f).la) ∧ W.cell? ⟨0, f * 8 + 1, none⟩ = some (.int .i64 (us f).ha) ∧ W.cell? ⟨0, f * 8 + 2, none⟩ = some (.int .i64 (us f).lb) ∧ W.cell? ⟨0, f * 8 + 3, none⟩ = some (.int .i64 (us f).hb)) ∧ W.cell? ⟨0, f * 8 + 4, none⟩ = some (.int .i64 (us f).lc) ∧ W.cell? ⟨0, f * 8 + 5, none⟩ = some (.int .i64 (us f).hc) ∧ W.cell? ⟨0, f * 8 + 6, none⟩ = some (.int .i64 (us f).ln) ∧ W.cell? ⟨0, f * 8 + 7, none⟩ = some (.int .i64 (us f).hn) := by
  rw [MakeChecks.laidMetH_plain _ _ _ (by kernel_rfl)] at h
  obtain ⟨ps, ⟨_, _, _, _, _, _, _, _, _, _, ⟨g0, t0, cs0, f0, p0, q0, hg0, ht0, hv0, hd0, _⟩, _⟩, _⟩ := h
  obtain rfl := Option.some.inj (gUses.symm.trans hg0)
  obtain rfl := Option.some.inj (tUses.symm.trans ht0)
  obtain ⟨xs, m1, rfl, hx1, hlen, hn3, hel⟩ := DataW.trod_array Tryd.underlying52 hd0
  rw [udatum] at hx1
  simp only [Prod.mk.injEq, DataW.agg.injEq] at hx1
  rw [cellsU] at hel
  intro k hk
  have h0 := hel k hk
  have hxk : xs[k]? = some xs[k] := List.getElem?_eq_getElem (by omega)
  rw [hxk] at h0
  obtain ⟨ys, n, _, hy, _, hyl, hf⟩ := DataW.trod_struct Tryd.underlying51 h0
  match ys, hyl with
  | [y0, y1, y2, y3], _ =>
    have e0 := hf 0 _ rfl
    have e1 := hf 1 _ rfl
    have e2 := hf 2 _ rfl
    have e3 := hf 3 _ rfl
    dsimp at e0 e1 e2 e3
    rw [cellsBd] at e0 e1 e2 e3
    obtain ⟨l0, u0, a0, b0, d0⟩ := bd_open (W := W) e0
    obtain ⟨l1, u1, a1, b1, d1⟩ := bd_open (W := W) e1
    obtain ⟨l2, u2, a2, b2, d2⟩ := bd_open (W := W) e2
    obtain ⟨l3, u3, a3, b3, d3⟩ := bd_open (W := W) e3
    have hmk : (xs.map (·.1))[k]? = some xs[k].1 := by rw [List.getElem?_map, hxk]; rfl
    rw [← hx1.1, hy] at hmk
    have hb : udata[k]? = some (.agg [bdat (us k).la (us k).ha, bdat (us k).lb (us k).hb, bdat (us k).lc (us k).hc, bdat (us k).ln (us k).hn]) := by
      unfold udata
      rw [List.getElem?_map, List.getElem?_range hk]; rfl
    rw [hb] at hmk
    simp [d0, d1, d2, d3, bdat] at hmk
    obtain ⟨⟨rfl, rfl⟩, ⟨rfl, rfl⟩, ⟨rfl, rfl⟩, rfl, rfl⟩ := hmk
    have hv := World.var?_cell hg0 hv0
    simp only [List.getElem?_take, List.getElem?_drop, Array.getElem?_toList] at a0 a1 a2 a3 b0 b1 b2 b3
    refine ⟨⟨(hv _).trans ?_, (hv _).trans ?_, (hv _).trans ?_, (hv _).trans ?_⟩, (hv _).trans ?_, (hv _).trans ?_, (hv _).trans ?_, (hv _).trans ?_⟩
    · simpa using a0
    · simpa using b0
    · simpa using a1
    · simpa using b1
    · simpa using a2
    · simpa using b2
    · simpa using a3
    · simpa using b3
theorem tab_of_laid {W : World} (h : laidMetH Tryd.prog laid1 W) : Tab W := ⟨forms_of_laid h, uses_of_laid h⟩

section
variable {H : Type} {enc : TypeId × Value → H} {W : World} {d : DataW H} {p : List MemPlace}
def cdat (c : Cd) : DataW H := .agg [.lit (.int .u8 (c.op : Int)), .lit (.int .i64 c.a), .lit (.int .i64 c.b), .lit (.int .i64 c.c), .lit (.int .i64 c.n)]
structure CdWf (c : Cd) : Prop where
  fo : (Lit.int .u8 (c.op : Int)).wf = true
  fa : (Lit.int .i64 c.a).wf = true
  fb : (Lit.int .i64 c.b).wf = true
  fc : (Lit.int .i64 c.c).wf = true
  fn : (Lit.int .i64 c.n).wf = true
theorem CdWf.lt {c : Cd} (h : CdWf c) : c.op < 256 := by have := bounds_u8 h.fo; omega
set_option maxRecDepth 100000 in
theorem cd_open {v : Value} {base : Nat} (hv : Value.okWide Tryd.prog W .any base 28 v) (h : DataW.Trod enc Tryd.prog W 0 (fun _ => true) true 28 v d p) :
    ∃ c : Cd, v = .agg (ca c) ∧ d = (cdat c) ∧ p = [] ∧ (CdWf c) := by
  unfold Value.okWide at hv
  rw [Tryd.underlying28] at hv
  obtain ⟨cs, rfl, hsz, _⟩ := hv
  rw [cellsC] at hsz
  obtain ⟨fuel, hf⟩ := h
  obtain ⟨ys, m, _, hx, _, hyl, hat⟩ := DataW.trod_struct Tryd.underlying28 hf
  obtain ⟨l⟩ := cs
  match l, hsz, ys, hyl with
  | [v0, v1, v2, v3, v4], _, [y0, y1, y2, y3, y4], _ =>
    have e0 := hat 0 _ rfl
    have e1 := hat 1 _ rfl
    have e2 := hat 2 _ rfl
    have e3 := hat 3 _ rfl
    have e4 := hat 4 _ rfl
    dsimp [Value.cells] at e0 e1 e2 e3 e4
    rw [cellsB8] at e0
    rw [cellsI] at e1 e2 e3 e4
    obtain ⟨z0, a0, b0, w0⟩ := DataW.trod_int Tryd.underlying5 e0
    obtain ⟨z1, a1, b1, w1⟩ := DataW.trod_int Tryd.underlying3 e1
    obtain ⟨z2, a2, b2, w2⟩ := DataW.trod_int Tryd.underlying3 e2
    obtain ⟨z3, a3, b3, w3⟩ := DataW.trod_int Tryd.underlying3 e3
    obtain ⟨z4, a4, b4, w4⟩ := DataW.trod_int Tryd.underlying3 e4
    simp at a0 a1 a2 a3 a4
    subst a0 a1 a2 a3 a4 b0 b1 b2 b3 b4
    simp at hx
    have hb := bounds_u8 w0
    obtain ⟨s, rfl⟩ : ∃ s : Nat, z0 = (s : Int) := ⟨z0.toNat, by omega⟩
    exact ⟨⟨s, z1, z2, z3, z4⟩, rfl, hx.1, hx.2, ⟨w0, w1, w2, w3, w4⟩⟩
set_option maxRecDepth 100000 in
theorem cd_shut {base : Nat} {sp : Nat → Bool} {held : Bool} {c : Cd} (h : (CdWf c)) : DataW.Trod enc Tryd.prog W base sp held 28 (.agg (ca c)) (cdat c) [] := by
  refine ⟨2, ?_⟩
  have := trod_struct_mk (enc := enc) (w := W) (base := base) (spare := sp) (held := held) (n := 1) (cs := (ca c).toList) (xs := [(.lit (.int .u8 (c.op : Int)), []), (.lit (.int .i64 c.a), []), (.lit (.int .i64 c.b), []), (.lit (.int .i64 c.c), []), (.lit (.int .i64 c.n), [])]) Tryd.underlying28 (by rw [cellsC]; rfl) (by
    simp [ca, cellsI, cellsB8, trod_int_mk 0 Tryd.underlying5 h.fo, trod_int_mk 0 Tryd.underlying3 h.fa, trod_int_mk 0 Tryd.underlying3 h.fb, trod_int_mk 0 Tryd.underlying3 h.fc, trod_int_mk 0 Tryd.underlying3 h.fn])
  simpa [Value.cells, cdat] using this
end

theorem post_below {H : Type} {enc : TypeId × Value → H} {P : Program} {f : Func} {s : ChangeSpec} {apart fresh handsOn : Bool} {W W' : World} {args : Array Value} {v : Value} {ds gs : List (DataW H)} {before pa pv : List MemPlace}
    (hW : DataW.Whole enc P f.params.toList s.vars apart W args.toList ds gs before)
    (hres : ∀ (b : Nat) (sp : Nat → Bool), DataW.TrodAll enc P W' b sp handsOn f.resultTypes.toList (v.resultList f.resultTypes.size) (s.fn H (ds ++ gs)).results [])
    (hargs : ∀ sp : Nat → Bool, (∀ p ∈ before, sp p.block = true) → DataW.TrodAll enc P W' 0 sp true f.params.toList args.toList (s.fn H (ds ++ gs)).args pa)
    (hvars : ∀ sp : Nat → Bool, (∀ p ∈ before, sp p.block = true) → DataW.TrodVars enc P W' sp s.vars (s.fn H (ds ++ gs)).vars pv)
    (hps : before = pa ++ pv) (hk : W.keptBut W' (· ∈ before)) : s.post enc P f apart fresh handsOn false W args v W' := by
  have hold : ∀ p ∈ before, (fun b => decide (b < W.heap.size)) p.block = true := fun p hp => by simpa using hW.lt p hp
  refine ⟨ds, gs, before, [], pa, pv, hW, hres _ _, hargs _ hold, hvars _ hold, World.keptBut_mono (fun p hp => ⟨hp, ?_⟩) hk, fun h => by cases h⟩
  rw [hps, List.mem_append] at hp
  exact Or.inr hp
end Go.Proofs.YtmfckkioccmblaaDoor.cd
