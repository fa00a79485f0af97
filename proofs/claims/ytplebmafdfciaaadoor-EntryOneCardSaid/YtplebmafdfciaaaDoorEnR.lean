/-
  How an entry, a bool and a row of steps as arguments read. No condition.
-/
import Derived.Test.YtplebmafdfciaaaDoorEnG
import Derived.ProofKit
import Derived.LaidMore
import Derived.OpenShut
import Derived.Stop.Joined
namespace Go.Proofs.YtplebmafdfciaaaDoor.en
open Go Go.ChangeShapes Go.WideShapes Go.ChangeAt Go.RowKit
set_option linter.unusedVariables false

theorem own : ownKnob Tryd.prog.godebug = none := by kernel_rfl
theorem cellsI : Tryd.prog.cellsOf 3 = 1 := by kernel_rfl
theorem cellsM : Tryd.prog.cellsOf 23 = 1 := by kernel_rfl
theorem cellsE : Tryd.prog.cellsOf 25 = 2 := by kernel_rfl

section
variable {H : Type} {enc : TypeId × Value → H} {W : World} {d : DataW H} {p : List MemPlace}
def En.datum (e : En) : DataW H := .agg [.lit (.int .i64 e.o), .lit (.int .u32 (e.s : Int))]
structure En.Wf (e : En) : Prop where
  o : (Lit.int .i64 e.o).wf = true
  s : (Lit.int .u32 (e.s : Int)).wf = true
theorem En.Wf.lt {e : En} (h : e.Wf) : e.s < 4294967296 := by have := bounds_u32 h.s; omega

theorem en_open {v : Value} {base : Nat} (hv : Value.okWide Tryd.prog W .any base 25 v) (h : DataW.Trod enc Tryd.prog W 0 (fun _ => true) true 25 v d p) :
    ∃ e : En, v = .agg #[.int .i64 e.o, .int .u32 (e.s : Int)] ∧ d = e.datum ∧ p = [] ∧ e.Wf := by
  unfold Value.okWide at hv
  rw [Tryd.underlying25] at hv
  obtain ⟨cs, rfl, hsz, _⟩ := hv
  rw [cellsE] at hsz
  obtain ⟨fuel, hf⟩ := h
  obtain ⟨ys, m, _, hx, _, hyl, hat⟩ := DataW.trod_struct Tryd.underlying25 hf
  obtain ⟨l⟩ := cs
  match l, hsz, ys, hyl with
  | [v0, v1], _, [y0, y1], _ =>
    have e0 := hat 0 _ rfl
    have e1 := hat 1 _ rfl
    dsimp [Value.cells] at e0 e1
    rw [cellsI] at e0
    rw [cellsM] at e1
    obtain ⟨z0, a0, b0, w0⟩ := DataW.trod_int Tryd.underlying3 e0
    obtain ⟨z1, a1, b1, w1⟩ := DataW.trod_int Tryd.underlying23 e1
    simp at a0 a1
    subst a0 a1 b0 b1
    simp at hx
    have hb := bounds_u32 w1
    obtain ⟨s, rfl⟩ : ∃ s : Nat, z1 = (s : Int) := ⟨z1.toNat, by omega⟩
    exact ⟨⟨z0, s⟩, rfl, hx.1, hx.2, ⟨w0, w1⟩⟩

theorem en_shut {base : Nat} {sp : Nat → Bool} {held : Bool} {e : En} (h : e.Wf) : DataW.Trod enc Tryd.prog W base sp held 25 (.agg #[.int .i64 e.o, .int .u32 (e.s : Int)]) e.datum [] := by
  refine ⟨2, ?_⟩
  have := trod_struct_mk (enc := enc) (w := W) (base := base) (spare := sp) (held := held) (n := 1) (cs := [.int .i64 e.o, .int .u32 (e.s : Int)]) (xs := [(.lit (.int .i64 e.o), []), (.lit (.int .u32 (e.s : Int)), [])]) Tryd.underlying25 (by rw [cellsE]; rfl) (by
    simp [cellsI, cellsM, trod_int_mk 0 Tryd.underlying3 h.o, trod_int_mk 0 Tryd.underlying23 h.s])
  simpa [Value.cells, En.datum] using this
theorem bool_open {v : Value} {base : Nat} (hv : Value.okWide Tryd.prog W .any base 4 v) (h : DataW.Trod enc Tryd.prog W 0 (fun _ => true) true 4 v d p) : ∃ b : Bool, v = .bool b ∧ d = .lit (.bool b) ∧ p = [] ∧ True := by
  obtain ⟨fuel, hf⟩ := h
  obtain ⟨b, h1, h2⟩ := DataW.trod_bool Tryd.underlying4 hf
  simp at h2
  refine ⟨b, ?_, h2.1, h2.2, trivial⟩
  have hu := Tryd.underlying4
  cases v <;> first
    | (simp [Value.cells] at h1; rw [h1]; done)
    | (unfold Value.okWide at hv; rw [hu] at hv; exact hv.elim)
theorem bool_shut {base : Nat} {sp : Nat → Bool} {held : Bool} {b : Bool} (h : True) : DataW.Trod enc Tryd.prog W base sp held 4 (.bool b) (.lit (.bool b)) [] := shut_bool Tryd.underlying4 b
end

theorem post_below {H : Type} {enc : TypeId × Value → H} {P : Program} {f : Func} {s : ChangeSpec} {apart fresh handsOn : Bool} {W W' : World} {args : Array Value} {v : Value} {ds gs : List (DataW H)} {before pa pv : List MemPlace}
    (hW : DataW.Whole enc P f.params.toList s.vars apart W args.toList ds gs before)
    (hres : ∀ (b : Nat) (sp : Nat → Bool), DataW.TrodAll enc P W' b sp handsOn f.resultTypes.toList (v.resultList f.resultTypes.size) (s.fn H (ds ++ gs)).results [])
    (hargs : ∀ sp : Nat → Bool, (∀ p ∈ before, sp p.block = true) → DataW.TrodAll enc P W' 0 sp true f.params.toList args.toList (s.fn H (ds ++ gs)).args pa)
    (hvars : ∀ sp : Nat → Bool, (∀ p ∈ before, sp p.block = true) → DataW.TrodVars enc P W' sp s.vars (s.fn H (ds ++ gs)).vars pv)
    (hps : before = pa ++ pv) (hk : W.keptBut W' (· ∈ before)) : s.post enc P f apart fresh handsOn false W args v W' := by
  have hold : ∀ p ∈ before, (fun b => decide (b < W.heap.size)) p.block = true := fun p hp => by simpa using hW.lt p hp
  refine ⟨ds, gs, before, [], pa, pv, hW, hres _ _, hargs _ hold, hvars _ hold, World.keptBut_mono (fun p hp => ⟨hp, ?_⟩) hk, fun h => by cases h⟩
  rw [hps, List.mem_append] at hp
  exact Or.inr hp
theorem laidOut : laidOutB Tryd.prog = true := by kernel_rfl
end Go.Proofs.YtplebmafdfciaaaDoor.en
