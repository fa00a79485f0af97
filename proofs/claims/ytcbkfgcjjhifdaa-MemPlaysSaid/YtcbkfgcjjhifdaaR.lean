/-
  What the arguments of the statements of layer 4 are: blocks, and lists of calls. No condition.
-/
import Derived.Test.YtcbkfgcjjhifdaaC1
import Derived.Deep.Grids
namespace Go.Proofs.Ytcbkfgcjjhifdaa.pp
open Go Go.ChangeShapes Go.WideShapes Go.ChangeAt Go.RowKit
set_option linter.unusedVariables false

theorem own : ownKnob Try.prog.godebug = none := by kernel_rfl
theorem laidOut : laidOutB Try.prog = true := by kernel_rfl
theorem cells3 : Try.prog.cellsOf 3 = 1 := by kernel_rfl
theorem cells26 : Try.prog.cellsOf 26 = 1 := by kernel_rfl
theorem cells30 : Try.prog.cellsOf 30 = 16 := by kernel_rfl

theorem below_of {w w' : World} (h : w.grownBy w' none) : Below w.heap.size w w' := ⟨h.os, h.tape, h.output, h.size, fun k hk => h.block k hk (by simp)⟩

section
variable {H : Type} {enc : TypeId × Value → H} {W : World} {d : DataW H} {p : List MemPlace}

theorem block_at {v : Value} {base : Nat} (hv : Value.okWide Try.prog W .any base 30 v) (h : DataW.Trod enc Try.prog W 0 (fun _ => true) true 30 v d p) :
    ∃ x : List Int, v = .agg (row x) ∧ x.length = 16 ∧ ∀ y ∈ x, (Lit.int .u32 y).wf = true := by
  unfold Value.okWide at hv
  rw [Try.underlying30] at hv
  obtain ⟨cs, rfl, hsz, _⟩ := hv
  rw [cells30] at hsz
  obtain ⟨fuel, hf⟩ := h
  obtain ⟨xs, m, hm, hx, hl, hxl, hat⟩ := DataW.trod_array Try.underlying30 hf
  rw [cells26] at hat
  have each : ∀ i, i < 16 → ∃ z : Int, cs[i]? = some (.int .u32 z) ∧ (Lit.int .u32 z).wf = true := fun i hi => by
    have h1 := hat i hi
    have hc : ((cs.toList.drop (i * 1)).take 1) = [cs[i]] := by
      rw [Nat.mul_one, List.take_one, List.head?_drop]
      simp [hsz, hi]
    rw [show (Value.agg cs).cells.toList = cs.toList from rfl, hc, List.getElem?_eq_getElem (by omega)] at h1
    obtain ⟨z, e, _, hw⟩ := DataW.trod_int Try.underlying26 h1
    refine ⟨z, ?_, hw⟩
    rw [Array.getElem?_eq_getElem (by omega)]
    simpa using e
  obtain ⟨q, hq⟩ := Go.Deep.choose_lt each
  refine ⟨(List.range 16).map q, ?_, by simp, fun y hy => ?_⟩
  · congr 1
    apply Array.ext_getElem?
    intro i
    rw [row_get]
    by_cases hi : i < 16
    · rw [(hq i hi).1]; simp [List.getElem?_range hi, U]
    · rw [Array.getElem?_eq_none (by omega), List.getElem?_eq_none (by simp; omega)]; rfl
  · obtain ⟨i, hi, rfl⟩ := List.mem_map.1 hy
    exact (hq i (List.mem_range.1 hi)).2

theorem u46 : (Try.prog.underlying 46).map (fun d => match d with | .struct fs => fs.toList.map (fun f => (f.type, f.offset)) | _ => []) = some [(3, 0), (3, 1), (3, 2), (26, 3)] := by kernel_rfl
theorem cells46 : Try.prog.cellsOf 46 = 4 := by kernel_rfl
theorem fields46 : ∃ f0 f1 f2 f3 : Field, Try.prog.underlying 46 = some (.struct #[f0, f1, f2, f3]) ∧ (f0.type = 3 ∧ f0.offset = 0) ∧ (f1.type = 3 ∧ f1.offset = 1) ∧ (f2.type = 3 ∧ f2.offset = 2) ∧ (f3.type = 26 ∧ f3.offset = 3) := by
  have h := u46
  cases hu : Try.prog.underlying 46 with
  | none => rw [hu] at h; simp at h
  | some d =>
    rw [hu] at h
    cases d with
    | struct fs =>
      simp at h
      obtain ⟨l⟩ := fs
      match l, h with
      | [f0, f1, f2, f3], h =>
        simp at h
        exact ⟨f0, f1, f2, f3, rfl, h.1, h.2.1, h.2.2.1, h.2.2.2⟩
    | _ => simp at h

/-- A call: its kind, its block, its word, its X. -/
structure OpX where
  kind : Int
  block : Int
  word : Int
  x : Int
instance : Inhabited OpX := ⟨⟨0, 0, 0, 0⟩⟩
/-- The calls of a script lie behind the address, four cells each. -/
def OpsAt (w : World) (ad : Option Addr) (os : List OpX) : Prop := ∀ (k : Nat) q, os[k]? = some q → ∃ b off, ad = some ⟨b, off, none⟩ ∧ w.cell? ⟨b, off + k * 4, none⟩ = some (.int .i64 q.kind) ∧ w.cell? ⟨b, off + (k * 4 + 1), none⟩ = some (.int .i64 q.block) ∧ w.cell? ⟨b, off + (k * 4 + 2), none⟩ = some (.int .i64 q.word) ∧ w.cell? ⟨b, off + (k * 4 + 3), none⟩ = some (.int .u32 q.x)

theorem ops_at {a0 : Option Addr} {len cap : Nat} (h : DataW.Trod enc Try.prog W 0 (fun _ => true) true 41 (.slice a0 len cap) d p) : ∃ os : List OpX, len = os.length ∧ OpsAt W a0 os := by
  obtain ⟨fuel, hf⟩ := h
  obtain ⟨f0, f1, f2, f3, hu, ⟨t0, o0⟩, ⟨t1, o1⟩, ⟨t2, o2⟩, ⟨t3, o3⟩⟩ := fields46
  rcases Go.Deep.open_slice Try.underlying41 hf with ⟨hcs, hx⟩ | ⟨a, len', cap', m, n, D, Pl, hcs, _, hl, hm, hmm, hx, hcell⟩
  · simp [Value.cells] at hcs
    obtain ⟨rfl, rfl, rfl⟩ := hcs
    exact ⟨[], rfl, fun k x hk => by simp at hk⟩
  · simp [Value.cells] at hcs
    obtain ⟨rfl, rfl, rfl⟩ := hcs
    simp only [if_true] at hmm
    subst hmm
    have each : ∀ i, i < len → ∃ q : OpX, W.cell? (a.add (i * 4)) = some (.int .i64 q.kind) ∧ W.cell? (a.add (i * 4 + 1)) = some (.int .i64 q.block) ∧ W.cell? (a.add (i * 4 + 2)) = some (.int .i64 q.word) ∧ W.cell? (a.add (i * 4 + 3)) = some (.int .u32 q.x) := by
      intro i hi
      obtain ⟨cs', h1, h2⟩ := hcell i (by omega)
      rw [cells46] at h1
      obtain ⟨_, hlen, hc⟩ := World.cells?_some h1
      obtain ⟨xs, k, hk, hxy, _, hxl, hf⟩ := DataW.trod_struct hu h2
      match xs, hxl, cs', hlen with
      | [y0, y1, y2, y3], _, [v0, v1, v2, v3], _ =>
        have g0 := hf 0 f0 rfl
        have g1 := hf 1 f1 rfl
        have g2 := hf 2 f2 rfl
        have g3 := hf 3 f3 rfl
        simp [o0, o1, o2, o3, t0, t1, t2, t3, cells3, cells26] at g0 g1 g2 g3
        obtain ⟨z0, e0, _, w0⟩ := DataW.trod_int Try.underlying3 g0
        obtain ⟨z1, e1, _, w1⟩ := DataW.trod_int Try.underlying3 g1
        obtain ⟨z2, e2, _, w2⟩ := DataW.trod_int Try.underlying3 g2
        obtain ⟨z3, e3, _, w3⟩ := DataW.trod_int Try.underlying26 g3
        cases e0; cases e1; cases e2; cases e3
        have c0 := hc 0 (by omega)
        have c1 := hc 1 (by omega)
        have c2 := hc 2 (by omega)
        have c3 := hc 3 (by omega)
        rw [Go.Deep.add_add] at c0 c1 c2 c3
        exact ⟨⟨z0, z1, z2, z3⟩, by simpa using c0, by simpa using c1, by simpa using c2, by simpa using c3⟩
    obtain ⟨q, hq⟩ := Go.Deep.choose_lt each
    refine ⟨(List.range len).map q, by simp, fun k x hk => ?_⟩
    rw [List.getElem?_map, Option.map_eq_some_iff] at hk
    obtain ⟨y, hy, rfl⟩ := hk
    obtain ⟨hy1, hy2⟩ := List.getElem?_eq_some_iff.1 hy
    simp at hy1 hy2
    subst hy2
    obtain ⟨c0, c1, c2, c3⟩ := hq k hy1
    obtain ⟨z0, _⟩ := hq 0 (by omega)
    obtain ⟨b, off, spot⟩ := a
    have hspot : spot = none := by simpa [Addr.add] using World.cell?_spot z0
    subst hspot
    rw [add_lit] at c0 c1 c2 c3
    exact ⟨b, off, rfl, c0, c1, c2, c3⟩
end
end Go.Proofs.Ytcbkfgcjjhifdaa.pp
