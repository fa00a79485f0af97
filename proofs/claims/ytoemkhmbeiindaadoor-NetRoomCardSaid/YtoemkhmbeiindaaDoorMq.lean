/-
  A map keyed by pairs of ints whose elements are ints, as a function: what a look-up and a count (m[k]++) make of it. No condition but what each theorem names.
-/
import Derived.Test.YtoemkhmbeiindaaDoorKb0
import Derived.WideKeyPair
import Derived.MapKept
import Derived.Carry
namespace Go.Proofs.YtoemkhmbeiindaaDoor.tt
open Go Go.RowKit Go.Shelf Go.MapKept Go.ChangeShapes Go.WideShapes
set_option linter.unusedVariables false

def ka (a q : Int) : Value := .agg #[.int .i64 a, .int .i64 q]
theorem ka_inj {a q x y : Int} (h : ka a q = ka x y) : a = x ∧ q = y := by
  unfold ka at h; simp at h; exact h
theorem karr : Go.WideMaps.ArrKey Tryd.prog 66 3 2 := ⟨Tryd.underlying66, by kernel_rfl, by kernel_rfl, by kernel_rfl⟩
theorem klaw : Go.WideMaps.KeyLaw Tryd.prog 66 := karr.law
theorem types1 : ∃ m, Tryd.prog.types.size = m + 1 := by
  have : 0 < Tryd.prog.types.size := by decide +kernel
  exact ⟨Tryd.prog.types.size - 1, by omega⟩
theorem ka_key {a q : Int} (ha : (Lit.int .i64 a).wf = true) (hq : (Lit.int .i64 q).wf = true) : ∃ l, keyOf Tryd.prog 66 (ka a q) = some l :=
  ⟨_, Go.WideMaps.keyOf_pair karr Tryd.underlying3 types1 ha hq⟩
/-- The block b is a map that has f a q at the key (a, q), if it has the key; else f a q is 0. -/
structure QIs (es : List MapEntry) (f : Int → Int → Int) : Prop where
  keys : ∀ x ∈ es, ∃ l, keyOf Tryd.prog 66 x.key = some l
  at_ : ∀ a q, (∃ e ∈ es, e.key = ka a q ∧ e.val = .int .i64 (f a q)) ∨ ((∀ e ∈ es, e.key ≠ ka a q) ∧ f a q = 0)
def MapQ (w : World) (b : Nat) (f : Int → Int → Int) : Prop := ∃ es clock, w.heap[b]? = some (.map es clock) ∧ Stamped es clock ∧ QIs es.toList f
def qput (f : Int → Int → Int) (a q v : Int) : Int → Int → Int := fun x y => if x = a ∧ y = q then v else f x y
theorem MapQ.lt {w : World} {b : Nat} {f : Int → Int → Int} (h : MapQ w b f) : b < w.heap.size := by
  obtain ⟨es, c, hb, _⟩ := h; exact lt_of hb
theorem MapQ.same {w w' : World} {b : Nat} {f : Int → Int → Int} (h : MapQ w b f) (hb : w'.heap[b]? = w.heap[b]?) : MapQ w' b f := by
  obtain ⟨es, c, h1, h2⟩ := h; exact ⟨es, c, hb.trans h1, h2⟩
theorem MapQ.grown {w w' : World} {b : Nat} {f : Int → Int → Int} (h : MapQ w b f) (hg : w.grownBy w' none) : MapQ w' b f := h.same (hg.block b h.lt (by simp))
theorem MapQ.new (w : World) : MapQ (w.alloc (.map #[] 0)) w.heap.size (fun _ _ => 0) := by
  refine ⟨#[], 0, (heap_alloc w _).1, stamped_empty 0, ⟨fun x hx => by simp at hx, fun a q => .inr ⟨fun e he => by simp at he, rfl⟩⟩⟩
theorem MapQ.congr {w : World} {b : Nat} {f g : Int → Int → Int} (h : MapQ w b f) (e : ∀ x y, f x y = g x y) : MapQ w b g := by
  have : f = g := funext fun x => funext fun y => e x y
  rw [← this]; exact h
theorem qnodup {es : List MapEntry} (h : (es.map (·.key)).Nodup) {i j : Nat} {x y : MapEntry} (hx : es[i]? = some x) (hy : es[j]? = some y) (e : x.key = y.key) : i = j := by
  refine (List.getElem?_inj (l := es.map (·.key)) (by rw [List.length_map]; exact (List.getElem?_eq_some_iff.1 hx).1) h).1 ?_
  rw [List.getElem?_map, List.getElem?_map, hx, hy]; simp [e]
theorem QIs.val {es : List MapEntry} {clock : Nat} {ar : Array MapEntry} {f : Int → Int → Int} (har : ar.toList = es) (hs : Stamped ar clock) (h : QIs es f) {a q : Int} {j : Nat} {e : MapEntry} (h2 : es[j]? = some e) (h3 : e.key = ka a q) : e.val = .int .i64 (f a q) := by
  rcases h.at_ a q with ⟨e', he, hk, hv⟩ | ⟨hn, _⟩
  · obtain ⟨i, hi⟩ := List.getElem?_of_mem he
    have := qnodup (har ▸ hs.2.2) hi h2 (hk.trans h3.symm)
    subst this
    rw [hi] at h2; cases h2; exact hv
  · exact absurd h3 (hn e (List.mem_of_getElem? h2))
theorem QIs.zero {es : List MapEntry} {f : Int → Int → Int} (h : QIs es f) {a q : Int} (h2 : ∀ e ∈ es, e.key ≠ ka a q) : f a q = 0 := by
  rcases h.at_ a q with ⟨e', he, hk, hv⟩ | ⟨_, hn⟩
  · exact absurd hk (h2 e' he)
  · exact hn
section
variable {w : World} {b : Nat} {f : Int → Int → Int}
theorem zero3 (w : World) : (zeroValue 3).run Tryd.prog w = .ok (.int .i64 0) w := by kernel_rfl
theorem lookup_q (h : MapQ w b f) (a q : Int) (ha : (Lit.int .i64 a).wf = true) (hq : (Lit.int .i64 q).wf = true) : (Instr.lookup 63 (.map (some b)) (.agg #[.int .i64 a, .int .i64 q]) false).run Tryd.prog w = .ok (.int .i64 (f a q)) w := by
  obtain ⟨es, c, hb, hs, hi⟩ := h
  obtain ⟨l, hl⟩ := ka_key ha hq
  have hc := fun em => klaw.check w em hl
  rcases klaw.find w hl es.toList hi.keys with ⟨h1, h2⟩ | ⟨j, e, h1, h2, h3⟩
  · have h0 := hi.zero h2
    have hz := zero3 w
    unfold ka at hc h1
    simp [Instr.lookup, run_underlying Tryd.underlying63, Go.MapKept.run_getObj_map hb, hc, h1, hz, Result.andThen, h0]
  · have hv := hi.val rfl hs h2 h3
    unfold ka at hc h1
    simp [Instr.lookup, run_underlying Tryd.underlying63, Go.MapKept.run_getObj_map hb, hc, h1, Result.andThen, hv]
theorem grown_map (hb : ∃ o, w.heap[b]? = some o) (o : Obj) : w.grownBy { w with heap := w.heap.setIfInBounds b o } (some b) := by
  obtain ⟨o', hb⟩ := hb
  exact ⟨rfl, rfl, rfl, by simp, fun i _ hn => (heap_set hb).2 i (fun e => hn (by rw [e]))⟩
theorem QIs.push {es : Array MapEntry} {c : Nat} (hi : QIs es.toList f) {a q : Int} (v : Int) {l : Lit} (hl : keyOf Tryd.prog 66 (ka a q) = some l) : QIs (es.push ⟨ka a q, .int .i64 v, c⟩).toList (qput f a q v) := by
  refine ⟨fun x hx => ?_, fun x y => ?_⟩
  · simp only [Array.toList_push, List.mem_append, List.mem_singleton] at hx
    rcases hx with hx | rfl
    · exact hi.keys x hx
    · exact ⟨_, hl⟩
  · simp only [Array.toList_push, List.mem_append, List.mem_singleton]
    unfold qput
    by_cases hxy : x = a ∧ y = q
    · rw [if_pos hxy]
      obtain ⟨rfl, rfl⟩ := hxy
      exact .inl ⟨_, .inr rfl, rfl, rfl⟩
    · rw [if_neg hxy]
      rcases hi.at_ x y with ⟨e, he, h1, h2⟩ | ⟨h1, h2⟩
      · exact .inl ⟨e, .inl he, h1, h2⟩
      · refine .inr ⟨fun e he => ?_, h2⟩
        rcases he with he | rfl
        · exact h1 e he
        · intro e'; have := ka_inj e'; exact hxy ⟨this.1.symm, this.2.symm⟩
theorem QIs.set {es : Array MapEntry} (hi : QIs es.toList f) {a q : Int} (v : Int) {j : Nat} {e0 : MapEntry} {c : Nat} (hs : Stamped es c) (h2 : es.toList[j]? = some e0) (h3 : e0.key = ka a q) : QIs (es.modify j (fun e => { e with val := .int .i64 v })).toList (qput f a q v) := by
  have hget : ∀ i, (es.modify j (fun e => { e with val := .int .i64 v })).toList[i]? = if j = i then (es.toList[i]?).map (fun e => { e with val := .int .i64 v }) else es.toList[i]? := fun i => by
    rw [Array.getElem?_toList, Array.getElem?_modify, Array.getElem?_toList]
  refine ⟨fun x hx => ?_, fun x y => ?_⟩
  · obtain ⟨i, hx⟩ := List.getElem?_of_mem hx
    rw [hget] at hx
    split at hx
    · rw [Option.map_eq_some_iff] at hx
      obtain ⟨y, hy, rfl⟩ := hx
      exact hi.keys y (List.mem_of_getElem? hy)
    · exact hi.keys x (List.mem_of_getElem? hx)
  · unfold qput
    by_cases hxy : x = a ∧ y = q
    · rw [if_pos hxy]
      obtain ⟨rfl, rfl⟩ := hxy
      refine .inl ⟨{ e0 with val := .int .i64 v }, List.mem_of_getElem? (i := j) ?_, h3, rfl⟩
      rw [hget, if_pos rfl, h2]; rfl
    · rw [if_neg hxy]
      rcases hi.at_ x y with ⟨e, he, h1, hv⟩ | ⟨h1, hv⟩
      · obtain ⟨i, he⟩ := List.getElem?_of_mem he
        have hij : j ≠ i := fun e' => by
          subst e'
          rw [h2] at he; cases he
          have := ka_inj (h1.symm.trans h3)
          exact hxy this
        exact .inl ⟨e, List.mem_of_getElem? (i := i) (by rw [hget, if_neg hij]; exact he), h1, hv⟩
      · refine .inr ⟨fun e he => ?_, hv⟩
        obtain ⟨i, he⟩ := List.getElem?_of_mem he
        rw [hget] at he
        split at he
        · rw [Option.map_eq_some_iff] at he
          obtain ⟨z, hz, rfl⟩ := he
          exact h1 z (List.mem_of_getElem? hz)
        · exact h1 e (List.mem_of_getElem? he)
/-- Where an entry of a stamp stands. -/
theorem stamp_at {es : Array MapEntry} {c : Nat} (hs : Stamped es c) {j : Nat} {e0 : MapEntry} (h : es.toList[j]? = some e0) : es.findIdx? (fun e => ((e.born : Nat) : Int) == ((e0.born : Nat) : Int)) = some j := by
  obtain ⟨xs⟩ := es
  rw [List.findIdx?_toArray]
  rw [List.findIdx?_eq_some_iff_getElem]
  obtain ⟨hlt, he⟩ := List.getElem?_eq_some_iff.1 h
  refine ⟨hlt, by simp [he], fun i hi => ?_⟩
  simp only [beq_iff_eq, Int.natCast_inj]
  intro e
  have hn := hs.2.1
  have hil : i < xs.length := Nat.lt_trans hi hlt
  have := (List.getElem?_inj (l := xs.map (·.born)) (by rw [List.length_map]; exact hil) hn (j := j)).1 (by
    rw [List.getElem?_map, List.getElem?_map, List.getElem?_eq_getElem hlt, List.getElem?_eq_getElem hil]
    simp only [Option.map_some, Option.some.injEq]
    rw [e, ← he])
  omega
theorem count_q (h : MapQ w b f) (a q : Int) (ha : (Lit.int .i64 a).wf = true) (hq : (Lit.int .i64 q).wf = true) : ∃ (v0 : Value) (st : Nat) (w1 : World), (Instr.mapEntry 63 (.map (some b)) (.agg #[.int .i64 a, .int .i64 q])).run Tryd.prog w = .ok (.tuple #[v0, .int .i64 (st : Int)]) w1 ∧ MapQ w1 b f ∧ w.grownBy w1 (some b) ∧
    ∀ v : Int, ∃ w3, (Instr.entryStore 63 (.map (some b)) (.int .i64 (st : Int)) (.int .i64 v)).run Tryd.prog w1 = .ok () w3 ∧ MapQ w3 b (qput f a q v) ∧ w1.grownBy w3 (some b) := by
  obtain ⟨es, c, hb, hs, hi⟩ := h
  obtain ⟨l, hl⟩ := ka_key ha hq
  have hc := fun em => klaw.check w em hl
  rcases klaw.find w hl es.toList hi.keys with ⟨h1, h2⟩ | ⟨j, e0, h1, h2, h3⟩
  · have h0 := hi.zero h2
    have hz := zero3 w
    have hpush := stamped_push hs (key := ka a q) (val := .int .i64 0) h2
    have hq0 : qput f a q 0 = f := funext fun x => funext fun y => by
      unfold qput; split
      · rename_i hxy; rw [hxy.1, hxy.2, h0]
      · rfl
    have hb1 : ({ w with heap := w.heap.setIfInBounds b (Obj.map (es.push ⟨ka a q, .int .i64 0, c⟩) (c + 1)) } : World).heap[b]? = some (.map (es.push ⟨ka a q, .int .i64 0, c⟩) (c + 1)) := (heap_set hb).1
    have hidx : (es.push ⟨ka a q, .int .i64 0, c⟩).findIdx? (fun e => ((e.born : Nat) : Int) == ((c : Nat) : Int)) = some es.size := stamp_at hpush (j := es.size) (e0 := ⟨ka a q, .int .i64 0, c⟩) (by simp)
    refine ⟨.int .i64 0, c, { w with heap := w.heap.setIfInBounds b (Obj.map (es.push ⟨ka a q, .int .i64 0, c⟩) (c + 1)) }, ?_, ⟨_, _, hb1, hpush, hq0 ▸ hi.push 0 hl⟩, grown_map ⟨_, hb⟩ _, fun v => ?_⟩
    · unfold ka at hc h1 ⊢
      simp [Instr.mapEntry, run_underlying Tryd.underlying63, Go.MapKept.run_getObj_map hb, hc, h1, hz, Go.MapKept.run_setObj_map _ hb, Result.andThen, goInt]
    · have hst := (stamped_push hs (key := ka a q) (val := .int .i64 v) h2)
      have hmod : (es.push ⟨ka a q, .int .i64 0, c⟩).modify es.size (fun e => { e with val := .int .i64 v }) = es.push ⟨ka a q, .int .i64 v, c⟩ := by
        apply Array.ext_getElem?
        intro i
        rw [Array.getElem?_modify, Array.getElem?_push, Array.getElem?_push]
        by_cases hi' : es.size = i
        · subst hi'; simp
        · rw [if_neg hi']
          simp [Ne.symm hi']
      refine ⟨_, by simp [Instr.entryStore, Go.MapKept.run_getObj_map hb1, asInt, asIntOf, hidx, Go.MapKept.run_setObj_map _ hb1, Result.andThen] <;> rfl, ⟨_, _, (heap_set hb1).1, ?_, ?_⟩, grown_map ⟨_, hb1⟩ _⟩
      · rw [hmod]; exact hst
      · rw [hmod]; exact hi.push v hl
  · have hj : es[j]? = some e0 := by simpa using h2
    have hks := klaw.stays w hl
    have hsame : es.modify j (fun e => { e with key := ka a q }) = es := by
      apply Array.ext_getElem?
      intro i
      rw [Array.getElem?_modify]
      by_cases hij : j = i
      · subst hij; rw [if_pos rfl, hj]; simp [← h3]
      · rw [if_neg hij]
    have hidx := stamp_at hs h2
    have hset : { w with heap := w.heap.setIfInBounds b (Obj.map es c) } = w := by
      have hlt := lt_of hb
      have : w.heap.setIfInBounds b (Obj.map es c) = w.heap := by
        apply Array.ext_getElem?
        intro i
        rw [Array.getElem?_setIfInBounds]
        by_cases hij : b = i
        · subst hij; rw [if_pos rfl, if_pos hlt, hb]
        · rw [if_neg hij]
      rw [this]
    refine ⟨e0.val, e0.born, w, ?_, ⟨es, c, hb, hs, hi⟩, grown_refl _ _, fun v => ?_⟩
    · have h3' := h3
      unfold ka at hc h1 hks hsame h3'
      simp [Instr.mapEntry, run_underlying Tryd.underlying63, Go.MapKept.run_getObj_map hb, hc, h1, hj, h3', hks, hsame, Go.MapKept.run_setObj_map _ hb, Result.andThen, goInt, hset]
    · have hst := stamped_modify hs j (fun e => { e with val := .int .i64 v }) (fun _ _ => rfl) (fun _ _ _ => rfl)
      exact ⟨_, by simp [Instr.entryStore, Go.MapKept.run_getObj_map hb, asInt, asIntOf, hidx, Go.MapKept.run_setObj_map _ hb, Result.andThen], ⟨_, _, (heap_set hb).1, hst, hi.set v hs h2 h3⟩, grown_map ⟨_, hb⟩ _⟩
end
end Go.Proofs.YtoemkhmbeiindaaDoor.tt
