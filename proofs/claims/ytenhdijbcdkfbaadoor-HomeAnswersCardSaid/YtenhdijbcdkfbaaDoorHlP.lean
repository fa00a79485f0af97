/-
  Maps keyed by pairs of ints whose elements are ints, loops over them; where a floor (a home, and what is on its way) lies. No condition but what each theorem names.
-/
import Derived.Test.YtenhdijbcdkfbaaDoorHlA
import Derived.Test.YtenhdijbcdkfbaaDoorHp
import Derived.Test.YtenhdijbcdkfbaaDoorMp
import Derived.WideKeyPair
import Derived.MapKept
import Derived.Carry
import Derived.Maps.RangeWalk
namespace Go.Proofs.YtenhdijbcdkfbaaDoor.hh
open Go Go.ChangeShapes Go.WideShapes Go.ChangeAt Go.RowKit
open Go.RowKit Go.Shelf Go.MapKept Go.ChangeShapes Go.WideShapes Go.ChangeMaps
open Go.Proofs.YtenhdijbcdkfbaaDoor.tt (Nt Cfg fits net bare zd usd uses coreOf ok_ends MapAt mput mdel ik NPool NSl Turn flat na nt zn grown_alloc grown_refl grown_trans tyne lt_of)
open Go.Proofs.YtenhdijbcdkfbaaDoor.en (En gets back asked asks free ask_parts may_parts ea)
open Go.Proofs.YtenhdijbcdkfbaaDoor.mm (wi wo ones wo_lt)
set_option linter.unusedVariables false
set_option linter.unusedSimpArgs false

def ka (a q : Int) : Value := .agg #[.int .i64 a, .int .i64 q]
theorem ka_inj {a q x y : Int} (h : ka a q = ka x y) : a = x ∧ q = y := by
  unfold ka at h; simp at h; exact h
theorem karr : Go.WideMaps.ArrKey Tryd.prog 65 3 2 := ⟨Tryd.underlying65, by kernel_rfl, by kernel_rfl, by kernel_rfl⟩
theorem klaw : Go.WideMaps.KeyLaw Tryd.prog 65 := karr.law
theorem typesq : ∃ m, Tryd.prog.types.size = m + 1 := by
  have : 0 < Tryd.prog.types.size := by decide +kernel
  exact ⟨Tryd.prog.types.size - 1, by omega⟩
theorem ka_key {a q : Int} (ha : (Lit.int .i64 a).wf = true) (hq : (Lit.int .i64 q).wf = true) : ∃ l, keyOf Tryd.prog 65 (ka a q) = some l :=
  ⟨_, Go.WideMaps.keyOf_pair karr Tryd.underlying3 typesq ha hq⟩
/-- The block b is a map that has f a q at the key (a, q), if it has the key; else f a q is 0. -/
structure QIs (es : List MapEntry) (f : Int → Int → Int) : Prop where
  form : ∀ x ∈ es, ∃ a q, x.key = ka a q ∧ 0 ≤ q ∧ (Lit.int .i64 a).wf = true ∧ (Lit.int .i64 q).wf = true
  keys : ∀ x ∈ es, ∃ l, keyOf Tryd.prog 65 x.key = some l
  at_ : ∀ a q, (∃ e ∈ es, e.key = ka a q ∧ e.val = .int .i64 (f a q)) ∨ ((∀ e ∈ es, e.key ≠ ka a q) ∧ f a q = 0)
def MapQ (w : World) (b : Nat) (f : Int → Int → Int) : Prop := ∃ es clock, w.heap[b]? = some (.map es clock) ∧ MapKept.Stamped es clock ∧ QIs es.toList f
def qput (f : Int → Int → Int) (a q v : Int) : Int → Int → Int := fun x y => if x = a ∧ y = q then v else f x y
theorem MapQ.lt {w : World} {b : Nat} {f : Int → Int → Int} (h : MapQ w b f) : b < w.heap.size := by
  obtain ⟨es, c, hb, _⟩ := h; exact lt_of hb
theorem MapQ.same {w w' : World} {b : Nat} {f : Int → Int → Int} (h : MapQ w b f) (hb : w'.heap[b]? = w.heap[b]?) : MapQ w' b f := by
  obtain ⟨es, c, h1, h2⟩ := h; exact ⟨es, c, hb.trans h1, h2⟩
theorem MapQ.grown {w w' : World} {b : Nat} {f : Int → Int → Int} (h : MapQ w b f) (hg : w.grownBy w' none) : MapQ w' b f := h.same (hg.block b h.lt (by simp))
theorem MapQ.new (w : World) : MapQ (w.alloc (.map #[] 0)) w.heap.size (fun _ _ => 0) := by
  refine ⟨#[], 0, heap_alloc_new _ _, MapKept.stamped_empty 0, ⟨fun x hx => by simp at hx, fun x hx => by simp at hx, fun a q => .inr ⟨fun e he => by simp at he, rfl⟩⟩⟩
theorem MapQ.congr {w : World} {b : Nat} {f g : Int → Int → Int} (h : MapQ w b f) (e : ∀ x y, f x y = g x y) : MapQ w b g := by
  have : f = g := funext fun x => funext fun y => e x y
  rw [← this]; exact h
theorem qnodup {es : List MapEntry} (h : (es.map (·.key)).Nodup) {i j : Nat} {x y : MapEntry} (hx : es[i]? = some x) (hy : es[j]? = some y) (e : x.key = y.key) : i = j := by
  refine (List.getElem?_inj (l := es.map (·.key)) (by rw [List.length_map]; exact (List.getElem?_eq_some_iff.1 hx).1) h).1 ?_
  rw [List.getElem?_map, List.getElem?_map, hx, hy]; simp [e]
theorem QIs.val {es : List MapEntry} {clock : Nat} {ar : Array MapEntry} {f : Int → Int → Int} (har : ar.toList = es) (hs : MapKept.Stamped ar clock) (h : QIs es f) {a q : Int} {j : Nat} {e : MapEntry} (h2 : es[j]? = some e) (h3 : e.key = ka a q) : e.val = .int .i64 (f a q) := by
  rcases h.at_ a q with ⟨e', he, hk, hv⟩ | ⟨hn, _⟩
  · obtain ⟨i, hi⟩ := List.getElem?_of_mem he
    have := qnodup (har ▸ hs.2.2) hi h2 (hk.trans h3.symm)
    subst this
    rw [hi] at h2; cases h2; exact hv
  · exact absurd h3 (hn e (List.mem_of_getElem? h2))
theorem QIs.zero {es : List MapEntry} {f : Int → Int → Int} (h : QIs es f) {a q : Int} (h2 : ∀ e ∈ es, e.key ≠ ka a q) : f a q = 0 := by
  rcases h.at_ a q with ⟨e', he, hk, hv⟩ | ⟨_, hn⟩
  · exact absurd hk (h2 e' he)
  · exact hn
section
variable {w : World} {b : Nat} {f : Int → Int → Int}
theorem zeroq (w : World) : (zeroValue 3).run Tryd.prog w = .ok (.int .i64 0) w := by kernel_rfl
theorem lookup_q (h : MapQ w b f) (a q : Int) (ha : (Lit.int .i64 a).wf = true) (hq : (Lit.int .i64 q).wf = true) : (Instr.lookup 59 (.map (some b)) (.agg #[.int .i64 a, .int .i64 q]) false).run Tryd.prog w = .ok (.int .i64 (f a q)) w := by
  obtain ⟨es, c, hb, hs, hi⟩ := h
  obtain ⟨l, hl⟩ := ka_key ha hq
  have hc := fun em => klaw.check w em hl
  rcases klaw.find w hl es.toList hi.keys with ⟨h1, h2⟩ | ⟨j, e, h1, h2, h3⟩
  · have h0 := hi.zero h2
    have hz := zeroq w
    unfold ka at hc h1
    simp [Instr.lookup, run_underlying Tryd.underlying59, Go.MapKept.run_getObj_map hb, hc, h1, hz, Result.andThen, h0]
  · have hv := hi.val rfl hs h2 h3
    unfold ka at hc h1
    simp [Instr.lookup, run_underlying Tryd.underlying59, Go.MapKept.run_getObj_map hb, hc, h1, Result.andThen, hv]
theorem grown_mapq (hb : ∃ o, w.heap[b]? = some o) (o : Obj) : w.grownBy { w with heap := w.heap.setIfInBounds b o } (some b) := by
  obtain ⟨o', hb⟩ := hb
  exact ⟨rfl, rfl, rfl, by simp, fun i _ hn => (MapKept.heap_set hb).2 i (fun e => hn (by rw [e]))⟩
theorem QIs.push {es : Array MapEntry} {c : Nat} (hi : QIs es.toList f) {a q : Int} (h0 : 0 ≤ q ∧ (Lit.int .i64 a).wf = true ∧ (Lit.int .i64 q).wf = true) (v : Int) {l : Lit} (hl : keyOf Tryd.prog 65 (ka a q) = some l) : QIs (es.push ⟨ka a q, .int .i64 v, c⟩).toList (qput f a q v) := by
  refine ⟨fun x hx => ?_, fun x hx => ?_, fun x y => ?_⟩
  · simp only [Array.toList_push, List.mem_append, List.mem_singleton] at hx
    rcases hx with hx | rfl
    · exact hi.form x hx
    · exact ⟨a, q, rfl, h0⟩
  · simp only [Array.toList_push, List.mem_append, List.mem_singleton] at hx
    rcases hx with hx | rfl
    · exact hi.keys x hx
    · exact ⟨_, hl⟩
  · simp only [Array.toList_push, List.mem_append, List.mem_singleton]
    unfold qput
    by_cases hxy : x = a ∧ y = q
    · rw [if_pos hxy]
      obtain ⟨rfl, rfl⟩ := hxy
      exact .inl ⟨_, .inr rfl, rfl, rfl⟩
    · rw [if_neg hxy]
      rcases hi.at_ x y with ⟨e, he, h1, h2⟩ | ⟨h1, h2⟩
      · exact .inl ⟨e, .inl he, h1, h2⟩
      · refine .inr ⟨fun e he => ?_, h2⟩
        rcases he with he | rfl
        · exact h1 e he
        · intro e'; have := ka_inj e'; exact hxy ⟨this.1.symm, this.2.symm⟩
theorem QIs.set {es : Array MapEntry} (hi : QIs es.toList f) {a q : Int} (v : Int) {j : Nat} {e0 : MapEntry} {c : Nat} (hs : MapKept.Stamped es c) (h2 : es.toList[j]? = some e0) (h3 : e0.key = ka a q) : QIs (es.modify j (fun e => { e with val := .int .i64 v })).toList (qput f a q v) := by
  have hget : ∀ i, (es.modify j (fun e => { e with val := .int .i64 v })).toList[i]? = if j = i then (es.toList[i]?).map (fun e => { e with val := .int .i64 v }) else es.toList[i]? := fun i => by
    rw [Array.getElem?_toList, Array.getElem?_modify, Array.getElem?_toList]
  refine ⟨fun x hx => ?_, fun x hx => ?_, fun x y => ?_⟩
  · obtain ⟨i, hx⟩ := List.getElem?_of_mem hx
    rw [hget] at hx
    split at hx
    · rw [Option.map_eq_some_iff] at hx
      obtain ⟨y, hy, rfl⟩ := hx
      exact hi.form y (List.mem_of_getElem? hy)
    · exact hi.form x (List.mem_of_getElem? hx)
  · obtain ⟨i, hx⟩ := List.getElem?_of_mem hx
    rw [hget] at hx
    split at hx
    · rw [Option.map_eq_some_iff] at hx
      obtain ⟨y, hy, rfl⟩ := hx
      exact hi.keys y (List.mem_of_getElem? hy)
    · exact hi.keys x (List.mem_of_getElem? hx)
  · unfold qput
    by_cases hxy : x = a ∧ y = q
    · rw [if_pos hxy]
      obtain ⟨rfl, rfl⟩ := hxy
      refine .inl ⟨{ e0 with val := .int .i64 v }, List.mem_of_getElem? (i := j) ?_, h3, rfl⟩
      rw [hget, if_pos rfl, h2]; rfl
    · rw [if_neg hxy]
      rcases hi.at_ x y with ⟨e, he, h1, hv⟩ | ⟨h1, hv⟩
      · obtain ⟨i, he⟩ := List.getElem?_of_mem he
        have hij : j ≠ i := fun e' => by
          subst e'
          rw [h2] at he; cases he
          have := ka_inj (h1.symm.trans h3)
          exact hxy this
        exact .inl ⟨e, List.mem_of_getElem? (i := i) (by rw [hget, if_neg hij]; exact he), h1, hv⟩
      · refine .inr ⟨fun e he => ?_, hv⟩
        obtain ⟨i, he⟩ := List.getElem?_of_mem he
        rw [hget] at he
        split at he
        · rw [Option.map_eq_some_iff] at he
          obtain ⟨z, hz, rfl⟩ := he
          exact h1 z (List.mem_of_getElem? hz)
        · exact h1 e (List.mem_of_getElem? he)
/-- Where an entry of a stamp stands. -/
theorem stamp_at {es : Array MapEntry} {c : Nat} (hs : MapKept.Stamped es c) {j : Nat} {e0 : MapEntry} (h : es.toList[j]? = some e0) : es.findIdx? (fun e => ((e.born : Nat) : Int) == ((e0.born : Nat) : Int)) = some j := by
  obtain ⟨xs⟩ := es
  rw [List.findIdx?_toArray]
  rw [List.findIdx?_eq_some_iff_getElem]
  obtain ⟨hlt, he⟩ := List.getElem?_eq_some_iff.1 h
  refine ⟨hlt, by simp [he], fun i hi => ?_⟩
  simp only [beq_iff_eq, Int.natCast_inj]
  intro e
  have hn := hs.2.1
  have hil : i < xs.length := Nat.lt_trans hi hlt
  have := (List.getElem?_inj (l := xs.map (·.born)) (by rw [List.length_map]; exact hil) hn (j := j)).1 (by
    rw [List.getElem?_map, List.getElem?_map, List.getElem?_eq_getElem hlt, List.getElem?_eq_getElem hil]
    simp only [Option.map_some, Option.some.injEq]
    rw [e, ← he])
  omega
theorem count_q (h : MapQ w b f) (a q : Int) (h0q : 0 ≤ q) (ha : (Lit.int .i64 a).wf = true) (hq : (Lit.int .i64 q).wf = true) : ∃ (v0 : Value) (st : Nat) (w1 : World), (Instr.mapEntry 59 (.map (some b)) (.agg #[.int .i64 a, .int .i64 q])).run Tryd.prog w = .ok (.tuple #[v0, .int .i64 (st : Int)]) w1 ∧ MapQ w1 b f ∧ w.grownBy w1 (some b) ∧
    ∀ v : Int, ∃ w3, (Instr.entryStore 59 (.map (some b)) (.int .i64 (st : Int)) (.int .i64 v)).run Tryd.prog w1 = .ok () w3 ∧ MapQ w3 b (qput f a q v) ∧ w1.grownBy w3 (some b) := by
  obtain ⟨es, c, hb, hs, hi⟩ := h
  obtain ⟨l, hl⟩ := ka_key ha hq
  have hc := fun em => klaw.check w em hl
  rcases klaw.find w hl es.toList hi.keys with ⟨h1, h2⟩ | ⟨j, e0, h1, h2, h3⟩
  · have h0 := hi.zero h2
    have hz := zeroq w
    have hpush := MapKept.stamped_push hs (key := ka a q) (val := .int .i64 0) h2
    have hq0 : qput f a q 0 = f := funext fun x => funext fun y => by
      unfold qput; split
      · rename_i hxy; rw [hxy.1, hxy.2, h0]
      · rfl
    have hb1 : ({ w with heap := w.heap.setIfInBounds b (Obj.map (es.push ⟨ka a q, .int .i64 0, c⟩) (c + 1)) } : World).heap[b]? = some (.map (es.push ⟨ka a q, .int .i64 0, c⟩) (c + 1)) := (MapKept.heap_set hb).1
    have hidx : (es.push ⟨ka a q, .int .i64 0, c⟩).findIdx? (fun e => ((e.born : Nat) : Int) == ((c : Nat) : Int)) = some es.size := stamp_at hpush (j := es.size) (e0 := ⟨ka a q, .int .i64 0, c⟩) (by simp)
    refine ⟨.int .i64 0, c, { w with heap := w.heap.setIfInBounds b (Obj.map (es.push ⟨ka a q, .int .i64 0, c⟩) (c + 1)) }, ?_, ⟨_, _, hb1, hpush, hq0 ▸ hi.push ⟨h0q, ha, hq⟩ 0 hl⟩, grown_mapq ⟨_, hb⟩ _, fun v => ?_⟩
    · unfold ka at hc h1 ⊢
      simp [Instr.mapEntry, run_underlying Tryd.underlying59, Go.MapKept.run_getObj_map hb, hc, h1, hz, Go.MapKept.run_setObj_map _ hb, Result.andThen, goInt]
    · have hst := (MapKept.stamped_push hs (key := ka a q) (val := .int .i64 v) h2)
      have hmod : (es.push ⟨ka a q, .int .i64 0, c⟩).modify es.size (fun e => { e with val := .int .i64 v }) = es.push ⟨ka a q, .int .i64 v, c⟩ := by
        apply Array.ext_getElem?
        intro i
        rw [Array.getElem?_modify, Array.getElem?_push, Array.getElem?_push]
        by_cases hi' : es.size = i
        · subst hi'; simp
        · rw [if_neg hi']
          simp [Ne.symm hi']
      refine ⟨_, by simp [Instr.entryStore, Go.MapKept.run_getObj_map hb1, asInt, asIntOf, hidx, Go.MapKept.run_setObj_map _ hb1, Result.andThen] <;> rfl, ⟨_, _, (MapKept.heap_set hb1).1, ?_, ?_⟩, grown_mapq ⟨_, hb1⟩ _⟩
      · rw [hmod]; exact hst
      · rw [hmod]; exact hi.push ⟨h0q, ha, hq⟩ v hl
  · have hj : es[j]? = some e0 := by simpa using h2
    have hks := klaw.stays w hl
    have hsame : es.modify j (fun e => { e with key := ka a q }) = es := by
      apply Array.ext_getElem?
      intro i
      rw [Array.getElem?_modify]
      by_cases hij : j = i
      · subst hij; rw [if_pos rfl, hj]; simp [← h3]
      · rw [if_neg hij]
    have hidx := stamp_at hs h2
    have hset : { w with heap := w.heap.setIfInBounds b (Obj.map es c) } = w := by
      have hlt := lt_of hb
      have : w.heap.setIfInBounds b (Obj.map es c) = w.heap := by
        apply Array.ext_getElem?
        intro i
        rw [Array.getElem?_setIfInBounds]
        by_cases hij : b = i
        · subst hij; rw [if_pos rfl, if_pos hlt, hb]
        · rw [if_neg hij]
      rw [this]
    refine ⟨e0.val, e0.born, w, ?_, ⟨es, c, hb, hs, hi⟩, grown_refl _ _, fun v => ?_⟩
    · have h3' := h3
      unfold ka at hc h1 hks hsame h3'
      simp [Instr.mapEntry, run_underlying Tryd.underlying59, Go.MapKept.run_getObj_map hb, hc, h1, hj, h3', hks, hsame, Go.MapKept.run_setObj_map _ hb, Result.andThen, goInt, hset]
    · have hst := MapKept.stamped_modify hs j (fun e => { e with val := .int .i64 v }) (fun _ _ => rfl) (fun _ _ _ => rfl)
      exact ⟨_, by simp [Instr.entryStore, Go.MapKept.run_getObj_map hb, asInt, asIntOf, hidx, Go.MapKept.run_setObj_map _ hb, Result.andThen], ⟨_, _, (MapKept.heap_set hb).1, hst, hi.set v hs h2 h3⟩, grown_mapq ⟨_, hb⟩ _⟩
end

/-- The block R goes over the map in the block M; n entries are still to come. -/
def IterQ (w : World) (M R : Nat) (f : Int → Int → Int) (n : Nat) : Prop :=
  ∃ es clock since seen c0, w.heap[M]? = some (.map es clock) ∧ MapKept.Stamped es clock ∧ QIs es.toList f ∧ w.heap[R]? = some (.mapIter (some M) since seen c0) ∧ (∀ x ∈ es.toList, x.born < since) ∧ since ≤ c0 ∧ since ≤ clock ∧ (leftOf es seen).size = n
theorem IterQ.map {w : World} {M R : Nat} {f : Int → Int → Int} {n : Nat} (h : IterQ w M R f n) : MapQ w M f := by
  obtain ⟨es, clock, _, _, _, hb, h1, h2, _⟩ := h
  exact ⟨es, clock, hb, h1, h2⟩
theorem IterQ.lt {w : World} {M R : Nat} {f : Int → Int → Int} {n : Nat} (h : IterQ w M R f n) : R < w.heap.size := by
  obtain ⟨es, clock, _, _, _, _, _, _, hr, _⟩ := h
  exact (Array.getElem?_eq_some_iff.1 hr).1
theorem IterQ.same {w w' : World} {M R : Nat} {f : Int → Int → Int} {n : Nat} (h : IterQ w M R f n) (hm : w'.heap[M]? = w.heap[M]?) (hr : w'.heap[R]? = w.heap[R]?) : IterQ w' M R f n := by
  obtain ⟨es, clock, since, seen, c0, h1, h2, h3, h4, h5⟩ := h
  exact ⟨es, clock, since, seen, c0, hm.trans h1, h2, h3, hr.trans h4, h5⟩
theorem IterQ.more {w w' : World} {M R : Nat} {f : Int → Int → Int} {n : Nat} (h : IterQ w M R f n) (hg : w.grownBy w' none) : IterQ w' M R f n := h.same (hg.block M h.map.lt (by simp)) (hg.block R h.lt (by simp))
section
variable {w : World} {ops : Array Oper} {rest : List Oper} {a : Act} {Q : Exit → Act → World → Prop} {dst : Option Tmp} {ty : TypeId} {pos : String} {after : Array Edge}
set_option maxRecDepth 100000 in
theorem rangeQ (m : Operand) (b : Nat) (f : Int → Int → Int) (ha : a.eval m = .map (some b)) (hM : MapQ w b f)
    (h : ∀ w' n, IterQ w' b w.heap.size f n → w.grownBy w' none → w'.heap.size = w.heap.size + 1 → wpList Tryd.prog ops Q rest (a.put dst (.pointer (some ⟨w.heap.size, 0, none⟩))) w') : wpList Tryd.prog ops Q (⟨dst, .range 59 m, ty, pos, after, none⟩ :: rest) a w := by
  refine wpList_plain rfl fun K' hK' => ?_
  have hlt := hM.lt
  obtain ⟨es, clock, hb, hs, hi⟩ := hM
  unfold Oper.wp
  simp only [execOp, ha, Sem.run_bind, run_range_map w 59 65 3 b es clock Tryd.underlying59 hb, Result.andThen_ok, Sem.run_pure]
  refine hK' _ _ (h _ _ ⟨es, clock, clock, #[], clock, ((MapKept.heap_alloc w _).2 b hlt).trans hb, hs, hi, (MapKept.heap_alloc w _).1, hs.1, Nat.le_refl _, Nat.le_refl _, rfl⟩ (World.grownBy_alloc w _ none) (by simp))
set_option maxRecDepth 100000 in
theorem nextQ (it : Operand) (M R : Nat) (f : Int → Int → Int) (n : Nat) (ha : a.eval it = .pointer (some ⟨R, 0, none⟩)) (hI : IterQ w M R f n)
    (h0 : wpList Tryd.prog ops Q rest (a.put dst (.tuple #[.bool false])) w)
    (h : ∀ w' n' x q, IterQ w' M R f n' → n' < n → 0 ≤ q ∧ (Lit.int .i64 x).wf = true ∧ (Lit.int .i64 q).wf = true → w.grownBy w' (some R) → w'.heap.size = w.heap.size → (Instr.entry (.pointer (some ⟨R, 0, none⟩))).run Tryd.prog w' = .ok (.tuple #[.agg #[.int .i64 x, .int .i64 q], .int .i64 (f x q)]) w' → wpList Tryd.prog ops Q rest (a.put dst (.tuple #[.bool true, .agg #[.int .i64 x, .int .i64 q], .int .i64 (f x q)])) w') :
    wpList Tryd.prog ops Q (⟨dst, .next it false, ty, pos, after, none⟩ :: rest) a w := by
  refine wpList_plain rfl fun K' hK' => ?_
  obtain ⟨es, clock, since, seen, c0, hb, hs, hi, hr, hold, hsc, hsk, rfl⟩ := hI
  have hne : R ≠ M := fun e => by rw [e, hb] at hr; cases hr
  unfold Oper.wp
  rcases run_next_at (P := Tryd.prog) w ty R M since c0 seen es clock hr hb hold hsc with ⟨_, hrun⟩ | ⟨e, he, w1, hal, hrun⟩
  · simp only [execOp, ha, Sem.run_bind, hrun, Result.andThen_ok, Sem.run_pure]
    exact hK' _ _ h0
  · obtain ⟨hem, hes⟩ := mem_left he
    have hr1 : w1.heap[R]? = some (.mapIter (some M) since seen c0) := by rcases hal with rfl | rfl <;> exact hr
    have hb1 : w1.heap[M]? = some (.map es clock) := by rcases hal with rfl | rfl <;> exact hb
    have hset := MapKept.heap_set (o' := .mapIter (some M) since (seen.push e.born) clock) hr1
    have hb' : (setBlock w1 R (.mapIter (some M) since (seen.push e.born) clock)).heap[M]? = some (.map es clock) := (hset.2 M (fun e1 => hne e1.symm)).trans hb1
    obtain ⟨x, q, hk, hq0⟩ := hi.form e hem
    have hk' : e.key = .agg #[.int .i64 x, .int .i64 q] := hk
    obtain ⟨j, hj⟩ := List.getElem?_of_mem hem
    have hv := hi.val rfl hs hj hk
    have hen := run_entry_at (P := Tryd.prog) _ R M since seen es clock e hset.1 hb' hem ((stamped_iff es clock).1 hs).2.1
    simp only [execOp, ha, Sem.run_bind, hrun, Result.andThen_ok, Sem.run_pure]
    rw [hk', hv] at hen ⊢
    refine hK' _ _ (h _ _ x q ⟨es, clock, since, seen.push e.born, clock, hb', hs, hi, hset.1, hold, hsk, hsk, rfl⟩ (left_shrinks es seen e he) hq0 ?_ ?_ hen)
    · rcases hal with rfl | rfl <;> exact ⟨rfl, rfl, rfl, by simp [setBlock], fun i _ hi => hset.2 i (fun e1 => hi (by rw [e1]))⟩
    · rcases hal with rfl | rfl <;> simp [setBlock]
end
/-- How many entries are still to come, off the world. -/
def leftQ (w : World) (M R : Nat) : Nat :=
  match w.heap[M]?, w.heap[R]? with
  | some (.map es _), some (.mapIter _ _ seen _) => (leftOf es seen).size
  | _, _ => 0
theorem IterQ.left {w : World} {M R : Nat} {f : Int → Int → Int} {n : Nat} (h : IterQ w M R f n) : leftQ w M R = n := by
  obtain ⟨es, clock, since, seen, c0, hb, _, _, hr, _, _, _, hn⟩ := h
  simp only [leftQ, hb, hr]
  exact hn
/-- The one operation that may come up comes up. -/
theorem rdo {P : Program} {md : Region.Mode} {ops : Array Oper} {Q : Exit → Act → World → Prop} {S : World → Prop} {i : Nat} {o : Oper} {fuel : Nat} {listed : Array Bool} {a : Act} {w : World} (ho : ops[i]? = some o)
    (h : ∀ K' : Act → World → Prop, Shut (∀ a w, S w → (S w → wpAnyH P md ops Q S fuel (listed.setIfInBounds i true) a w) → K' a w) → if Region.wanted o (yielded ops a.tmps) = true then Oper.wp P o a w K' Q else K' (a.put o.dst undef) w)
    (hr : Region.ready md ops listed = [i] := by kernel_rfl) : wpAnyH P md ops Q S (fuel + 1) listed a w := wpAnyH_ready hr (by simp) (AllReadyH.cons ho h AllReadyH.nil)

/-- A floor: its home, what is on its way, what is due, what came. -/
structure FlAt (w : World) (z fb h : Nat) (F : Ft) (qd qc : Nat) (v : Value) (way : List Nt) (D C : Int → Int → Int) : Prop where
  blk : w.heap[fb]? = some (.cells #[.pointer (some ⟨h, 0, none⟩), v, .map (some qd), .map (some qc)] 61 (0, 0))
  sl : NSl w v way
  due : MapQ w qd D
  cam : MapQ w qc C
  no : ¬ F.own fb ∧ (∀ k, v.ownBlock = some k → ¬ F.own k) ∧ ¬ F.own qd ∧ ¬ F.own qc
  ne : qd ≠ qc
  low : z ≤ fb ∧ (∀ k, v.ownBlock = some k → z ≤ k) ∧ z ≤ qd ∧ z ≤ qc
/-- What a call on a floor leaves alone. -/
structure Mv (w w' : World) (fb qd qc : Nat) (v v' : Value) : Prop where
  os : w'.os = w.os
  tape : w'.tape = w.tape
  output : w'.output = w.output
  size : w.heap.size ≤ w'.heap.size
  block : ∀ i, i < w.heap.size → i ≠ fb → i ≠ qd → i ≠ qc → some i ≠ v.ownBlock → w'.heap[i]? = w.heap[i]?
  next : tt.Next w w' v v'
section
variable {w w' : World} {z fb h : Nat} {F F' : Ft} {qd qc : Nat} {v v' : Value} {way : List Nt} {D C : Int → Int → Int} {c : Cfg} {H H' : Hm}
theorem FlAt.lt (L : FlAt w z fb h F qd qc v way D C) : fb < w.heap.size := lt_of L.blk
theorem FlAt.keep (L : FlAt w z fb h F qd qc v way D C) (h1 : w'.heap[fb]? = w.heap[fb]?) (h2 : ∀ k, v.ownBlock = some k → w'.heap[k]? = w.heap[k]?) (h3 : w'.heap[qd]? = w.heap[qd]?) (h4 : w'.heap[qc]? = w.heap[qc]?) : FlAt w' z fb h F qd qc v way D C :=
  ⟨h1.trans L.blk, L.sl.of_block h2, L.due.same h3, L.cam.same h4, L.no, L.ne, L.low⟩
theorem FlAt.grown (L : FlAt w z fb h F qd qc v way D C) (hg : w.grownBy w' none) : FlAt w' z fb h F qd qc v way D C :=
  L.keep (hg.block _ L.lt (by simp)) (fun k hk => hg.block _ (L.sl.lt k hk) (by simp)) (hg.block _ L.due.lt (by simp)) (hg.block _ L.cam.lt (by simp))
/-- A note was taken. -/
theorem FlAt.did (L : FlAt w z fb h F qd qc v way D C) (T : Did w w' F F') : FlAt w' z fb h F' qd qc v way D C := by
  have K := L.keep (T.block _ L.lt L.no.1) (fun k hk => T.block _ (L.sl.lt k hk) (L.no.2.1 k hk)) (T.block _ L.due.lt L.no.2.2.1) (T.block _ L.cam.lt L.no.2.2.2)
  exact ⟨K.blk, K.sl, K.due, K.cam, ⟨T.own L.lt L.no.1, fun k hk => T.own (L.sl.lt k hk) (L.no.2.1 k hk), T.own L.due.lt L.no.2.2.1, T.own L.cam.lt L.no.2.2.2⟩, L.ne, L.low⟩
theorem Mv.refl (w : World) (fb qd qc : Nat) (v : Value) : Mv w w fb qd qc v v := ⟨rfl, rfl, rfl, Nat.le_refl _, fun _ _ _ _ _ _ => rfl, .inl rfl⟩
theorem Mv.of_grown (fb qd qc : Nat) (v : Value) (hg : w.grownBy w' none) : Mv w w' fb qd qc v v := ⟨hg.os, hg.tape, hg.output, hg.size, fun i hi _ _ _ _ => hg.block i hi (by simp), .inl rfl⟩
theorem Mv.trans {a b d : World} {v'' : Value} (h : Mv a b fb qd qc v v') (k : Mv b d fb qd qc v' v'') : Mv a d fb qd qc v v'' :=
  ⟨k.os.trans h.os, k.tape.trans h.tape, k.output.trans h.output, Nat.le_trans h.size k.size, fun i hi h1 h2 h3 h4 => (k.block i (Nat.lt_of_lt_of_le hi h.size) h1 h2 h3 (h.next.ne hi h4)).trans (h.block i hi h1 h2 h3 h4), by
    rcases k.next with e | e
    · rcases h.next with e2 | e2
      · exact .inl (e.trans e2)
      · exact .inr fun k hk => e2 k (e ▸ hk)
    · exact .inr fun k hk => Nat.le_trans h.size (e k hk)⟩
/-- A home, where a floor was written. -/
theorem Own.mv {w0 : World} {n : Nat} (O : Own w0 w n c F H) (L : FlAt w w0.heap.size fb h F qd qc v way D C) (M : Mv w w' fb qd qc v v') : Own w0 w' n c F H := by
  have A := O.at'
  have nm : ∀ {i q : Nat} {f : Int → Int → Int} {cs : Array Value} {t : TypeId} {fr : Nat × Nat}, w.heap[i]? = some (.cells cs t fr) → MapQ w q f → i ≠ q := fun h1 h2 e => by
    obtain ⟨es, ck, hb, _⟩ := h2; subst e; rw [h1] at hb; cases hb
  have sl31 : ∀ {i : Nat} {cs : Array Value} {t : TypeId} {fr : Nat × Nat}, w.heap[i]? = some (.cells cs t fr) → t ≠ 31 → some i ≠ v.ownBlock := fun h1 ht e => by
    obtain ⟨cur, h2⟩ := L.sl.type _ e.symm
    rw [h1] at h2; cases h2; exact ht rfl
  refine ⟨A.keep fun i hi ho => M.block i hi (fun e => ?_) (fun e => ?_) (fun e => ?_) (fun e => ?_), ⟨M.os.trans O.old.os, M.tape.trans O.old.tape, M.output.trans O.old.output, Nat.le_trans O.old.size M.size, fun k hk _ => (M.block k (Nat.lt_of_lt_of_le hk O.old.size) (fun e => by have := L.low.1; omega) (fun e => by have := L.low.2.2.1; omega) (fun e => by have := L.low.2.2.2; omega) (fun e => by have := L.low.2.1 k e.symm; omega)).trans (O.old.block k hk (by simp))⟩, O.fresh⟩
  · subst e
    rcases ho with ho | ho | ho | ⟨cs, fr, ho⟩
    · exact L.no.1 ho
    · exact tyne L.blk A.blk (by decide) ho
    · exact tyne L.blk A.mem.blk (by decide) ho
    · exact tyne L.blk ho (by decide) rfl
  · subst e
    rcases ho with ho | ho | ho | ⟨cs, fr, ho⟩
    · exact L.no.2.2.1 ho
    · exact nm A.blk L.due ho.symm
    · exact nm A.mem.blk L.due ho.symm
    · exact nm ho L.due rfl
  · subst e
    rcases ho with ho | ho | ho | ⟨cs, fr, ho⟩
    · exact L.no.2.2.2 ho
    · exact nm A.blk L.cam ho.symm
    · exact nm A.mem.blk L.cam ho.symm
    · exact nm ho L.cam rfl
  · rcases ho with ho | ho | ho | ⟨cs, fr, ho⟩
    · exact L.no.2.1 i e.symm ho
    · subst ho; exact sl31 A.blk (by decide) e
    · subst ho; exact sl31 A.mem.blk (by decide) e
    · exact sl31 ho (by decide) e
end
theorem take_ok {c : Cfg} {H : Hm} {n : Nt} (h : ready c H n = 0) : (take c H n).2.2 = 0 := by
  unfold take
  rw [if_neg (fun e => e h)]
  split
  · split <;> rfl
  · split
    · rfl
    · split
      · rfl
      · dsimp only; split
        · rfl
        · split <;> rfl
/-- A note's first cells. -/
theorem note_cells {w : World} {g k : Nat} {n : Nt} (h : w.rangeAt g k (nt n)) : w.cell? ⟨g, k, none⟩ = some (.int .u8 n.k) ∧ w.cell? ⟨g, k + 1, none⟩ = some (.int .i64 n.f) ∧ w.cell? ⟨g, k + 2, none⟩ = some (.int .i64 n.t) ∧ w.cell? ⟨g, k + 3, none⟩ = some (.int .i64 n.b) ∧ w.cell? ⟨g, k + 5, none⟩ = some (.int .u8 n.s) :=
  ⟨h 0 _ rfl, h 1 _ rfl, h 2 _ rfl, h 3 _ rfl, h 5 _ rfl⟩
end Go.Proofs.YtenhdijbcdkfbaaDoor.hh
