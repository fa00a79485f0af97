/-
  A script of calls as an argument: how it reads. No condition.
-/
import Derived.Test.YtkpgajegmomihaaDeK
import Derived.ProofKit
import Derived.Deep.Slices
import Derived.Deep.Grids
import Derived.LaidMore
import Derived.OpenShut
import Derived.Stop.Joined
import Derived.Below
namespace Go.Proofs.Ytkpgajegmomihaa.de
open Go Go.ChangeShapes Go.WideShapes Go.ChangeAt Go.RowKit
set_option linter.unusedVariables false

theorem own : ownKnob Try.prog.godebug = none := by kernel_rfl
theorem laidOut : laidOutB Try.prog = true := by kernel_rfl
theorem below_of {w w' : World} (h : w.grownBy w' none) : Below w.heap.size w w' := ⟨h.os, h.tape, h.output, h.size, fun k hk => h.block k hk (by simp)⟩
def intOf : Value → Int | .int _ q => q | _ => 0
structure OpX where
  kd : Int
  n : Int
  st : Int
  ca : Int
  m : Bool
deriving Inhabited
/-- The rows os lie behind the address. -/
def OpXAt (w : World) (ad : Option Addr) (os : List OpX) : Prop := ∀ (k : Nat) (q : OpX), os[k]? = some q → ∃ g off, ad = some ⟨g, off, none⟩ ∧ w.cell? ⟨g, off + k * 5, none⟩ = some (.int .i64 q.kd) ∧ w.cell? ⟨g, off + k * 5 + 1, none⟩ = some (.int .i64 q.n) ∧ w.cell? ⟨g, off + k * 5 + 2, none⟩ = some (.int .u64 q.st) ∧ w.cell? ⟨g, off + k * 5 + 3, none⟩ = some (.int .u32 q.ca) ∧ w.cell? ⟨g, off + k * 5 + 4, none⟩ = some (.bool q.m)
theorem OpXAt.grown {w w' : World} {ad : Option Addr} {os : List OpX} (h : OpXAt w ad os) (hg : w.grownBy w' none) : OpXAt w' ad os := fun k q hk => by
  obtain ⟨g, off, e, h0, h1, h2, h3, h4⟩ := h k q hk
  exact ⟨g, off, e, hg.cell h0 (by simp), hg.cell h1 (by simp), hg.cell h2 (by simp), hg.cell h3 (by simp), hg.cell h4 (by simp)⟩
/-- Their words are words. -/
def OpXRng (os : List OpX) : Prop := ∀ x ∈ os, 0 ≤ x.st ∧ x.st < 18446744073709551616 ∧ 0 ≤ x.ca ∧ x.ca < 4294967296
theorem opsc_bool : Try.prog.cellsOf 4 = 1 := by kernel_rfl
theorem opsc_int : Try.prog.cellsOf 3 = 1 := by kernel_rfl
theorem opsc_uint32 : Try.prog.cellsOf 28 = 1 := by kernel_rfl
theorem opsc_uint64 : Try.prog.cellsOf 33 = 1 := by kernel_rfl
theorem ops_add (g off j : Nat) : (⟨g, off, none⟩ : Addr).add j = ⟨g, off + j, none⟩ := by unfold Addr.add; split <;> simp_all
theorem opsu : (Try.prog.underlying 49).map (fun d => match d with | .struct fs => fs.toList.map (fun f => (f.type, f.offset)) | _ => []) = some [(3, 0), (3, 1), (33, 2), (28, 3), (4, 4)] := by kernel_rfl
theorem opss : Try.prog.cellsOf 49 = 5 := by kernel_rfl
set_option maxRecDepth 100000 in
theorem opsf : ∃ f0 f1 f2 f3 f4 : Field, Try.prog.underlying 49 = some (.struct #[f0, f1, f2, f3, f4]) ∧ (f0.type = 3 ∧ f0.offset = 0) ∧ (f1.type = 3 ∧ f1.offset = 1) ∧ (f2.type = 33 ∧ f2.offset = 2) ∧ (f3.type = 28 ∧ f3.offset = 3) ∧ (f4.type = 4 ∧ f4.offset = 4) := by
  have h := opsu
  cases hu : Try.prog.underlying 49 with
  | none => rw [hu] at h; simp at h
  | some d =>
    rw [hu] at h
    cases d with
    | struct fs =>
      simp at h
      obtain ⟨l⟩ := fs
      match l, h with
      | [f0, f1, f2, f3, f4], h =>
        simp at h
        exact ⟨f0, f1, f2, f3, f4, rfl, h.1, h.2.1, h.2.2.1, h.2.2.2.1, h.2.2.2.2⟩
    | _ => simp at h

set_option maxRecDepth 100000 in
theorem ops_at {H : Type} {enc : TypeId × Value → H} {W : World} {d : DataW H} {p : List MemPlace} {a0 : Option Addr} {len cap : Nat} (h : DataW.Trod enc Try.prog W 0 (fun _ => true) true 44 (.slice a0 len cap) d p) : ∃ os : List OpX, len = os.length ∧ OpXAt W a0 os ∧ OpXRng os := by
  obtain ⟨fuel, hf⟩ := h
  obtain ⟨f0, f1, f2, f3, f4, hu, ⟨t0, o0⟩, ⟨t1, o1⟩, ⟨t2, o2⟩, ⟨t3, o3⟩, ⟨t4, o4⟩⟩ := opsf
  rcases Go.Deep.open_slice Try.underlying44 hf with ⟨hcs, hx⟩ | ⟨a, len', cap', m, n, D, Pl, hcs, _, hl, hm, hmm, hx, hcell⟩
  · simp [Value.cells] at hcs
    obtain ⟨rfl, rfl, rfl⟩ := hcs
    exact ⟨[], rfl, fun k x hk => by simp at hk, fun x hx => by simp at hx⟩
  · simp [Value.cells] at hcs
    obtain ⟨rfl, rfl, rfl⟩ := hcs
    simp only [if_true] at hmm
    subst hmm
    have each : ∀ i, i < len → ∃ q : OpX, ((W.cell? (a.add (i * 5)) = some (.int .i64 q.kd) ∧ W.cell? (a.add (i * 5 + 1)) = some (.int .i64 q.n) ∧ W.cell? (a.add (i * 5 + 2)) = some (.int .u64 q.st) ∧ W.cell? (a.add (i * 5 + 3)) = some (.int .u32 q.ca) ∧ W.cell? (a.add (i * 5 + 4)) = some (.bool q.m)) ∧ 0 ≤ q.st ∧ q.st < 18446744073709551616 ∧ 0 ≤ q.ca ∧ q.ca < 4294967296) := by
      intro i hi
      obtain ⟨cs', h1, h2⟩ := hcell i (by omega)
      rw [opss] at h1
      obtain ⟨_, hlen, hc⟩ := World.cells?_some h1
      obtain ⟨xs, k, hk, hxy, _, hxl, hf⟩ := DataW.trod_struct hu h2
      match xs, hxl, cs', hlen with
      | [y0, y1, y2, y3, y4], _, [v0, v1, v2, v3, v4], _ =>
        have g0 := hf 0 f0 rfl
        have g1 := hf 1 f1 rfl
        have g2 := hf 2 f2 rfl
        have g3 := hf 3 f3 rfl
        have g4 := hf 4 f4 rfl
        simp [o0, o1, o2, o3, o4, t0, t1, t2, t3, t4, opsc_bool, opsc_int, opsc_uint32, opsc_uint64] at g0 g1 g2 g3 g4
        obtain ⟨z0, e0, _, w0⟩ := DataW.trod_int Try.underlying3 g0
        obtain ⟨z1, e1, _, w1⟩ := DataW.trod_int Try.underlying3 g1
        obtain ⟨z2, e2, _, w2⟩ := DataW.trod_int Try.underlying33 g2
        obtain ⟨z3, e3, _, w3⟩ := DataW.trod_int Try.underlying28 g3
        obtain ⟨z4, e4, _⟩ := DataW.trod_bool Try.underlying4 g4
        cases e0; cases e1; cases e2; cases e3; cases e4
        have hb2 := bounds_u64 w2
        have hb3 := bounds_u32 w3
        have c0 := hc 0 (by omega)
        have c1 := hc 1 (by omega)
        have c2 := hc 2 (by omega)
        have c3 := hc 3 (by omega)
        have c4 := hc 4 (by omega)
        rw [Go.Deep.add_add] at c0 c1 c2 c3 c4
        exact ⟨⟨z0, z1, z2, z3, z4⟩, ⟨by simpa using c0, by simpa using c1, by simpa using c2, by simpa using c3, by simpa using c4⟩, by show 0 ≤ z2; omega, by show z2 < 18446744073709551616; omega, by show 0 ≤ z3; omega, by show z3 < 4294967296; omega⟩
    obtain ⟨q, hq⟩ := Go.Deep.choose_lt each
    refine ⟨(List.range len).map q, by simp, fun k x hk => ?_, fun x hx => ?_⟩
    · rw [List.getElem?_map, Option.map_eq_some_iff] at hk
      obtain ⟨y, hy, rfl⟩ := hk
      obtain ⟨hy1, hy2⟩ := List.getElem?_eq_some_iff.1 hy
      simp at hy1 hy2
      subst hy2
      obtain ⟨⟨c0, c1, c2, c3, c4⟩, _⟩ := hq k hy1
      obtain ⟨⟨z0, _⟩, _⟩ := hq 0 (by omega)
      obtain ⟨b, off, spot⟩ := a
      have hspot : spot = none := by simpa [Addr.add] using World.cell?_spot z0
      subst hspot
      rw [ops_add] at c0 c1 c2 c3 c4
      exact ⟨b, off, rfl, c0, by rw [Nat.add_assoc]; exact c1, by rw [Nat.add_assoc]; exact c2, by rw [Nat.add_assoc]; exact c3, by rw [Nat.add_assoc]; exact c4⟩
    · obtain ⟨y, hy, rfl⟩ := List.mem_map.1 hx
      exact (hq y (List.mem_range.1 hy)).2
end Go.Proofs.Ytkpgajegmomihaa.de
