/-
  What the listed variable (the table of kinds) gives a walk: its cells; that the heap which the program's own initialiser leaves meets the condition; how a note as an argument reads. No condition.
-/
import Derived.Test.YthmnjoanehepcaaDoorA4
import Derived.Test.YthmnjoanehepcaaDoorB6
import Derived.ProofKit
import Derived.LaidMore
import Derived.OpenShut
import Derived.Stop.Joined
import Derived.Deep.Grids
namespace Go.Proofs.YthmnjoanehepcaaDoor.nn
open Go Go.ChangeShapes Go.WideShapes Go.ChangeAt Go.RowKit
set_option linter.unusedVariables false

def laid1 : List (String × DataW Unit) := Rows.noteKnownRow.laid
theorem own : ownKnob Tryd.prog.godebug = none := by kernel_rfl
theorem laidOut : laidOutB Tryd.prog = true := by kernel_rfl
theorem gTab : (laid1.head?.bind fun x => Tryd.prog.globalNamed x.1) = some 0 := by kernel_rfl
theorem tTab : (Tryd.prog.globals[0]?).map (·.type) = some 48 := by kernel_rfl
theorem door_met (os : Os) (args : Array Value) : laidMetH Tryd.prog laid1 ((World.doorLaid Tryd.prog 400 os).forCall (fun _ _ => 0) ⟨#[], args, []⟩).memory :=
  laidMetH_of_parts3 (fuel := 8) (laidMet_of_run' 8 (by kernel_rfl) (by kernel_rfl)) (by kernel_rfl) (by kernel_rfl)
theorem cells3 : Tryd.prog.cellsOf 3 = 1 := by kernel_rfl
theorem cells4 : Tryd.prog.cellsOf 4 = 1 := by kernel_rfl
theorem cells5 : Tryd.prog.cellsOf 5 = 1 := by kernel_rfl
theorem cells25 : Tryd.prog.cellsOf 25 = 1 := by kernel_rfl
theorem cells26 : Tryd.prog.cellsOf 26 = 1 := by kernel_rfl
theorem cells27 : Tryd.prog.cellsOf 27 = 1 := by kernel_rfl
theorem cells29 : Tryd.prog.cellsOf 29 = 16 := by kernel_rfl
theorem cells31 : Tryd.prog.cellsOf 31 = 24 := by kernel_rfl
theorem cells47 : Tryd.prog.cellsOf 47 = 1 := by kernel_rfl

def kdata : List (DataW Unit) := (List.range 12).map fun k => .lit (.int .u8 (kinds.getD k 0))
theorem datum : (Rows.laid_undertow_note_kinds : DataW Unit) = .agg kdata := by rfl
theorem one_cell {cs : List Value} {n : Nat} {v : Value} (h : (cs.drop n).take 1 = [v]) : cs[n]? = some v := by
  have := congrArg (fun l : List Value => l[0]?) h
  simpa [List.getElem?_take, List.getElem?_drop] using this
theorem tab_of_laid {W : World} (h : laidMetH Tryd.prog laid1 W) : Tab W := by
  rw [MakeChecks.laidMetH_plain _ _ _ (by kernel_rfl)] at h
  obtain ⟨ps, ⟨g0, t0, cs0, f0, p0, q0, hg0, ht0, hv0, hd0, _, _⟩, _⟩ := h
  obtain rfl := Option.some.inj (gTab.symm.trans hg0)
  obtain rfl := Option.some.inj (tTab.symm.trans ht0)
  obtain ⟨xs, m1, rfl, hx1, hlen, hn3, hel⟩ := DataW.trod_array Tryd.underlying48 hd0
  rw [datum] at hx1
  simp only [Prod.mk.injEq, DataW.agg.injEq] at hx1
  rw [cells47] at hel
  intro k hk
  have h0 := hel k hk
  have hxk : xs[k]? = some xs[k] := List.getElem?_eq_getElem (by omega)
  rw [hxk] at h0
  obtain ⟨z0, a0, b0, _⟩ := DataW.trod_int Tryd.underlying47 h0
  have hmk : (xs.map (·.1))[k]? = some xs[k].1 := by rw [List.getElem?_map, hxk]; rfl
  have hb : kdata[k]? = some (.lit (.int .u8 (kinds.getD k 0))) := by
    unfold kdata
    rw [List.getElem?_map, List.getElem?_range hk]; rfl
  rw [← hx1.1, hb, b0] at hmk
  simp at hmk
  have hv := World.var?_cell hg0 hv0
  have c0 := one_cell a0
  simp only [Array.getElem?_toList] at c0
  refine (hv _).trans ?_
  rw [Nat.mul_one] at c0
  rw [List.getD_eq_getElem?_getD, hmk]
  simpa using c0

section
variable {H : Type} {enc : TypeId × Value → H} {W : World} {d : DataW H} {p : List MemPlace}
structure Nt.Wf (n : Nt) : Prop where
  k : (Lit.int .u8 n.k).wf = true
  f : (Lit.int .i64 n.f).wf = true
  t : (Lit.int .i64 n.t).wf = true
  b : (Lit.int .i64 n.b).wf = true
  st : (Lit.int .u64 n.st).wf = true
  s : (Lit.int .u8 n.s).wf = true
  d : ∀ x ∈ n.d, (Lit.int .u32 x).wf = true
theorem bounds_u64' {x : Int} (h : (Lit.int .u64 x).wf = true) : 0 ≤ x ∧ x < 18446744073709551616 := by
  have := bounds_u64 h; omega
theorem Nt.Wf.fit {n : Nt} (h : n.Wf) : n.Fit := ⟨bounds_u64' h.st, fun x hx => by have := bounds_u32 (h.d x hx); omega⟩
theorem nt_at {v : Value} {base : Nat} (hv : Value.okWide Tryd.prog W .any base 31 v) (h : DataW.Trod enc Tryd.prog W 0 (fun _ => true) true 31 v d p) :
    ∃ n : Nt, v = .agg (na n) ∧ n.Wf := by
  unfold Value.okWide at hv
  rw [Tryd.underlying31] at hv
  obtain ⟨cs, rfl, hsz, _⟩ := hv
  rw [cells31] at hsz
  obtain ⟨fuel, hf⟩ := h
  obtain ⟨ys, m, _, hx, _, hyl, hat⟩ := DataW.trod_struct Tryd.underlying31 hf
  obtain ⟨l⟩ := cs
  match l, hsz, ys, hyl with
  | v0 :: v1 :: v2 :: v3 :: v4 :: v5 :: v6 :: v7 :: L, hsz, [y0, y1, y2, y3, y4, y5, y6, y7, y8], _ =>
    have hL : L.length = 16 := by simpa using hsz
    have e0 := hat 0 _ rfl
    have e1 := hat 1 _ rfl
    have e2 := hat 2 _ rfl
    have e3 := hat 3 _ rfl
    have e4 := hat 4 _ rfl
    have e5 := hat 5 _ rfl
    have e6 := hat 6 _ rfl
    have e7 := hat 7 _ rfl
    have e8 := hat 8 _ rfl
    dsimp [Value.cells] at e0 e1 e2 e3 e4 e5 e6 e7 e8
    rw [cells5] at e0
    rw [cells3] at e1 e2 e3
    rw [cells25] at e4
    rw [cells26] at e5
    rw [cells4] at e6 e7
    rw [cells29] at e8
    simp only [List.drop_succ_cons, List.drop_zero] at e8
    rw [List.take_of_length_le (show L.length ≤ 16 by omega)] at e8
    obtain ⟨z0, a0, b0, w0⟩ := DataW.trod_int Tryd.underlying5 e0
    obtain ⟨z1, a1, b1, w1⟩ := DataW.trod_int Tryd.underlying3 e1
    obtain ⟨z2, a2, b2, w2⟩ := DataW.trod_int Tryd.underlying3 e2
    obtain ⟨z3, a3, b3, w3⟩ := DataW.trod_int Tryd.underlying3 e3
    obtain ⟨z4, a4, b4, w4⟩ := DataW.trod_int Tryd.underlying25 e4
    obtain ⟨z5, a5, b5, w5⟩ := DataW.trod_int Tryd.underlying26 e5
    obtain ⟨z6, a6, b6⟩ := DataW.trod_bool Tryd.underlying4 e6
    obtain ⟨z7, a7, b7⟩ := DataW.trod_bool Tryd.underlying4 e7
    obtain ⟨xs, m8, _, _, _, hxl, hel⟩ := DataW.trod_array Tryd.underlying29 e8
    rw [cells27] at hel
    simp at a0 a1 a2 a3 a4 a5 a6 a7
    have each : ∀ i, i < 16 → ∃ z : Int, L[i]? = some (.int .u32 z) ∧ (Lit.int .u32 z).wf = true := fun i hi => by
      have h1 := hel i hi
      have hc : ((L.drop (i * 1)).take 1) = [L[i]] := by
        rw [Nat.mul_one, List.take_one, List.head?_drop]
        simp [hL, hi]
      rw [hc, List.getElem?_eq_getElem (by omega)] at h1
      obtain ⟨z, e, _, hw⟩ := DataW.trod_int Tryd.underlying27 h1
      refine ⟨z, ?_, hw⟩
      rw [List.getElem?_eq_getElem (by omega)]
      simpa using e
    obtain ⟨q, hq⟩ := Go.Deep.choose_lt each
    refine ⟨⟨z0, z1, z2, z3, z4, z5, z6, z7, (List.range 16).map q, by simp⟩, ?_, ⟨w0, w1, w2, w3, w4, w5, fun y hy => ?_⟩⟩
    · subst a0 a1 a2 a3 a4 a5 a6 a7
      have hLq : L = ((List.range 16).map q).map U := by
        apply List.ext_getElem?
        intro i
        by_cases hi : i < 16
        · rw [(hq i hi).1]; simp [List.getElem?_range hi, U]
        · rw [List.getElem?_eq_none (by omega), List.getElem?_eq_none (by simp; omega)]
      rw [hLq]; rfl
    · obtain ⟨i, hi, rfl⟩ := List.mem_map.1 hy
      exact (hq i (List.mem_range.1 hi)).2
end

theorem post_below {H : Type} {enc : TypeId × Value → H} {P : Program} {f : Func} {s : ChangeSpec} {apart fresh handsOn : Bool} {W W' : World} {args : Array Value} {v : Value} {ds gs : List (DataW H)} {before pa pv : List MemPlace}
    (hW : DataW.Whole enc P f.params.toList s.vars apart W args.toList ds gs before)
    (hres : ∀ (b : Nat) (sp : Nat → Bool), DataW.TrodAll enc P W' b sp handsOn f.resultTypes.toList (v.resultList f.resultTypes.size) (s.fn H (ds ++ gs)).results [])
    (hargs : ∀ sp : Nat → Bool, (∀ p ∈ before, sp p.block = true) → DataW.TrodAll enc P W' 0 sp true f.params.toList args.toList (s.fn H (ds ++ gs)).args pa)
    (hvars : ∀ sp : Nat → Bool, (∀ p ∈ before, sp p.block = true) → DataW.TrodVars enc P W' sp s.vars (s.fn H (ds ++ gs)).vars pv)
    (hps : before = pa ++ pv) (hk : W.keptBut W' (· ∈ before)) : s.post enc P f apart fresh handsOn false W args v W' := by
  have hold : ∀ p ∈ before, (fun b => decide (b < W.heap.size)) p.block = true := fun p hp => by simpa using hW.lt p hp
  refine ⟨ds, gs, before, [], pa, pv, hW, hres _ _, hargs _ hold, hvars _ hold, World.keptBut_mono (fun p hp => ⟨hp, ?_⟩) hk, fun h => by cases h⟩
  rw [hps, List.mem_append] at hp
  exact Or.inr hp
end Go.Proofs.YthmnjoanehepcaaDoor.nn
