/-
  A map keyed by ints, as a function: what a look-up, a store, a delete, len, an assignment in two steps make of it, and their laws. No condition but what each theorem names.
-/
import Derived.Test.YtinogiidiommkaaGreatDoorSl
import Derived.MapKept
import Derived.Carry
import Derived.OwnWalkIn
import Derived.TacticsInMore
namespace Go.Proofs.YtinogiidiommkaaGreatDoor.tt
open Go Go.RowKit Go.MapKept
set_option linter.unusedVariables false

def ik (k : Int) : Value := .int .i64 k
/-- The block b is a map that has f k at the key k. -/
structure MapIs (es : List MapEntry) (f : Int → Option Value) : Prop where
  keys : ∀ x ∈ es, ∃ k, x.key = ik k
  at_ : ∀ k v, f k = some v ↔ ∃ e ∈ es, e.key = ik k ∧ e.val = v
def MapAt (w : World) (b : Nat) (f : Int → Option Value) : Prop := ∃ es clock, w.heap[b]? = some (.map es clock) ∧ Stamped es clock ∧ MapIs es.toList f
def mput (f : Int → Option Value) (k : Int) (v : Value) : Int → Option Value := fun x => if x = k then some v else f x
def mdel (f : Int → Option Value) (k : Int) : Int → Option Value := fun x => if x = k then none else f x
theorem ik_inj {a b : Int} (h : ik a = ik b) : a = b := by simpa [ik] using h
theorem ik_key (k : Int) : IsKey (.int .i64) (ik k) := rfl
theorem MapIs.isKey {es : List MapEntry} {f : Int → Option Value} (h : MapIs es f) : ∀ x ∈ es, IsKey (.int .i64) x.key := fun x hx => by
  obtain ⟨k, hk⟩ := h.keys x hx
  rw [hk]; exact ik_key k
theorem MapAt.lt {w : World} {b : Nat} {f : Int → Option Value} (h : MapAt w b f) : b < w.heap.size := by
  obtain ⟨es, c, hb, _⟩ := h; exact lt_of hb
theorem MapAt.same {w w' : World} {b : Nat} {f : Int → Option Value} (h : MapAt w b f) (hb : w'.heap[b]? = w.heap[b]?) : MapAt w' b f := by
  obtain ⟨es, c, h1, h2⟩ := h; exact ⟨es, c, hb.trans h1, h2⟩
theorem MapAt.new (w : World) : MapAt (w.alloc (.map #[] 0)) w.heap.size (fun _ => none) := by
  refine ⟨#[], 0, (heap_alloc w _).1, stamped_empty 0, ⟨fun x hx => by simp at hx, fun k v => ?_⟩⟩
  simp
theorem nodup_at {es : List MapEntry} (h : (es.map (·.key)).Nodup) {i j : Nat} {x y : MapEntry} (hx : es[i]? = some x) (hy : es[j]? = some y) (e : x.key = y.key) : i = j := by
  refine (List.getElem?_inj (l := es.map (·.key)) (by rw [List.length_map]; exact (List.getElem?_eq_some_iff.1 hx).1) h).1 ?_
  rw [List.getElem?_map, List.getElem?_map, hx, hy]; simp [e]

section
variable {P : Program} {w : World} {b : Nat} {f : Int → Option Value} {mt e : TypeId} (hm : P.underlying mt = some (.map 3 e)) (h3 : P.underlying 3 = some (.int .i64))
include hm h3
theorem run_lookup_map (h : MapAt w b f) {z : Value} (hz : (zeroValue e).run P w = .ok z w) (k : Int) : (Instr.lookup mt (.map (some b)) (.int .i64 k) false).run P w = .ok ((f k).getD z) w := by
  obtain ⟨es, c, hb, hs, hi⟩ := h
  rcases Go.MapKept.findNow_spec (ik_key k) es.toList 0 hi.isKey with ⟨h1, h2⟩ | ⟨j, e', h1, h2, h4⟩
  · have hf : f k = none := by
      cases hf : f k with
      | none => rfl
      | some v => obtain ⟨x, hx, hk, _⟩ := (hi.at_ k v).1 hf; exact absurd hk (h2 x hx)
    have hq := Go.MapKept.run_findKey (w := w) h3 h1
    have hc : ∀ em, (Instr.checkKey em 10000 3 (ik k)).run P w = .ok () w := fun em => Go.MapKept.run_checkKey h3 (ik_key k) em 9999
    unfold ik at hq hc
    simp [Instr.lookup, run_underlying hm, Go.MapKept.run_getObj_map hb, hc, hq, hz, Result.andThen, hf]
  · have hf : f k = some e'.val := (hi.at_ k _).2 ⟨e', List.mem_of_getElem? h2, h4, rfl⟩
    have hq := Go.MapKept.run_findKey (w := w) h3 h1
    have hc : ∀ em, (Instr.checkKey em 10000 3 (ik k)).run P w = .ok () w := fun em => Go.MapKept.run_checkKey h3 (ik_key k) em 9999
    unfold ik at hq hc
    simp [Instr.lookup, run_underlying hm, Go.MapKept.run_getObj_map hb, hc, hq, Result.andThen, hf]
theorem run_lookup_ok (h : MapAt w b f) {z : Value} (hz : (zeroValue e).run P w = .ok z w) (k : Int) : (Instr.lookup mt (.map (some b)) (.int .i64 k) true).run P w = .ok (.tuple #[(f k).getD z, .bool (f k).isSome]) w := by
  obtain ⟨es, c, hb, hs, hi⟩ := h
  rcases Go.MapKept.findNow_spec (ik_key k) es.toList 0 hi.isKey with ⟨h1, h2⟩ | ⟨j, e', h1, h2, h4⟩
  · have hf : f k = none := by
      cases hf : f k with
      | none => rfl
      | some v => obtain ⟨x, hx, hk, _⟩ := (hi.at_ k v).1 hf; exact absurd hk (h2 x hx)
    have hq := Go.MapKept.run_findKey (w := w) h3 h1
    have hc : ∀ em, (Instr.checkKey em 10000 3 (ik k)).run P w = .ok () w := fun em => Go.MapKept.run_checkKey h3 (ik_key k) em 9999
    unfold ik at hq hc
    simp [Instr.lookup, run_underlying hm, Go.MapKept.run_getObj_map hb, hc, hq, hz, Result.andThen, hf]
  · have hf : f k = some e'.val := (hi.at_ k _).2 ⟨e', List.mem_of_getElem? h2, h4, rfl⟩
    have hq := Go.MapKept.run_findKey (w := w) h3 h1
    have hc : ∀ em, (Instr.checkKey em 10000 3 (ik k)).run P w = .ok () w := fun em => Go.MapKept.run_checkKey h3 (ik_key k) em 9999
    unfold ik at hq hc
    simp [Instr.lookup, run_underlying hm, Go.MapKept.run_getObj_map hb, hc, hq, Result.andThen, hf]

theorem run_update_map (h : MapAt w b f) (k : Int) (v : Value) : ∃ w', (Instr.mapUpdate mt (.map (some b)) (.int .i64 k) v).run P w = .ok () w' ∧ MapAt w' b (mput f k v) ∧ w.grownBy w' (some b) := by
  obtain ⟨es, c, hb, hs, hi⟩ := h
  have hgr : ∀ o, w.grownBy { w with heap := w.heap.setIfInBounds b o } (some b) := fun o => ⟨rfl, rfl, rfl, by simp, fun i _ hn => (Go.MapKept.heap_set hb).2 i (fun e => hn (by rw [e]))⟩
  rcases Go.MapKept.findNow_spec (ik_key k) es.toList 0 hi.isKey with ⟨h1, h2⟩ | ⟨j, e', h1, h2, h4⟩
  · have hq := Go.MapKept.run_findKey (w := w) h3 h1
    have hc : ∀ em, (Instr.checkKey em 10000 3 (ik k)).run P w = .ok () w := fun em => Go.MapKept.run_checkKey h3 (ik_key k) em 9999
    unfold ik at hq hc
    refine ⟨_, by simp [ik, Instr.mapUpdate, run_underlying hm, Go.MapKept.run_getObj_map hb, hc, hq, Go.MapKept.run_setObj_map _ hb, Result.andThen], ⟨_, _, (Go.MapKept.heap_set hb).1, Go.MapKept.stamped_push hs (key := ik k) (val := v) h2, ?_, fun x u => ?_⟩, hgr _⟩
    · intro x hx
      simp only [Array.toList_push, List.mem_append, List.mem_singleton] at hx
      rcases hx with hx | rfl
      · exact hi.keys x hx
      · exact ⟨k, rfl⟩
    · simp only [Array.toList_push, List.mem_append, List.mem_singleton]
      unfold mput
      by_cases hx : x = k
      · subst hx
        rw [if_pos rfl]
        constructor
        · intro hu; cases hu; exact ⟨_, .inr rfl, rfl, rfl⟩
        · rintro ⟨y, hy | rfl, hy1, hy2⟩
          · exact absurd hy1 (h2 y hy)
          · simp at hy2; rw [hy2]
      · rw [if_neg hx, hi.at_ x u]
        constructor
        · rintro ⟨y, hy, h⟩; exact ⟨y, .inl hy, h⟩
        · rintro ⟨y, hy | rfl, hy1, hy2⟩
          · exact ⟨y, hy, hy1, hy2⟩
          · exact absurd (ik_inj hy1).symm hx
  · have hj : es[j]? = some e' := by simpa using h2
    have hq := Go.MapKept.run_findKey (w := w) h3 h1
    have hc : ∀ em, (Instr.checkKey em 10000 3 (ik k)).run P w = .ok () w := fun em => Go.MapKept.run_checkKey h3 (ik_key k) em 9999
    have hks := Go.MapKept.run_keyThatStays (P := P) (w := w) (ik_key k)
    have hkey : ∀ e'', es[j]? = some e'' → ({ e'' with key := ik k, val := v } : MapEntry).key = e''.key := fun e'' he => by rw [hj] at he; cases he; exact h4.symm
    have hst := Go.MapKept.stamped_modify hs j (fun e => { e with key := ik k, val := v }) (fun _ _ => rfl) (fun e'' _ he => hkey e'' he)
    have h4' : e'.key = .int .i64 k := h4
    unfold ik at hq hc hks
    refine ⟨_, by simp [ik, Instr.mapUpdate, run_underlying hm, Go.MapKept.run_getObj_map hb, hc, hq, hj, h4', hks, Go.MapKept.run_setObj_map _ hb, Result.andThen], ⟨_, _, (Go.MapKept.heap_set hb).1, hst, ?_, fun x u => ?_⟩, hgr _⟩
    · intro x hx
      obtain ⟨i, hx⟩ := List.getElem?_of_mem hx
      rw [Array.getElem?_toList, Array.getElem?_modify] at hx
      split at hx
      · rw [Option.map_eq_some_iff] at hx
        obtain ⟨y, hy, rfl⟩ := hx
        exact ⟨k, rfl⟩
      · exact hi.keys x (by simpa using Array.mem_of_getElem? hx)
    · unfold mput
      by_cases hx : x = k
      · subst hx
        rw [if_pos rfl]
        constructor
        · intro hu
          cases hu
          refine ⟨{ e' with key := ik x, val := v }, List.mem_of_getElem? (i := j) ?_, rfl, rfl⟩
          rw [Array.getElem?_toList, Array.getElem?_modify, if_pos rfl, hj]; rfl
        · rintro ⟨y, hy, hy1, hy2⟩
          obtain ⟨i, hy⟩ := List.getElem?_of_mem hy
          rw [Array.getElem?_toList, Array.getElem?_modify] at hy
          split at hy
          · rw [Option.map_eq_some_iff] at hy
            obtain ⟨z, _, rfl⟩ := hy
            rw [← hy2]
          · have := nodup_at hs.2.2 (i := i) (j := j) (by rw [Array.getElem?_toList]; exact hy) h2 (hy1.trans h4.symm)
            omega
      · rw [if_neg hx, hi.at_ x u]
        constructor
        · rintro ⟨y, hy, hy1, hy2⟩
          obtain ⟨i, hy⟩ := List.getElem?_of_mem hy
          have hij : j ≠ i := fun e => by
            subst e
            rw [h2] at hy; cases hy
            exact hx (ik_inj (hy1.symm.trans h4))
          refine ⟨y, List.mem_of_getElem? (i := i) ?_, hy1, hy2⟩
          rw [Array.getElem?_toList, Array.getElem?_modify, if_neg hij]
          simpa using hy
        · rintro ⟨y, hy, hy1, hy2⟩
          obtain ⟨i, hy⟩ := List.getElem?_of_mem hy
          rw [Array.getElem?_toList, Array.getElem?_modify] at hy
          split at hy
          · rw [Option.map_eq_some_iff] at hy
            obtain ⟨z, _, rfl⟩ := hy
            exact absurd (ik_inj hy1).symm hx
          · exact ⟨y, by simpa using Array.mem_of_getElem? hy, hy1, hy2⟩

theorem run_delete_map (h : MapAt w b f) (k : Int) (ty : TypeId) : ∃ w', (Builtin.delete_ #[mt, 3] ty #[.map (some b), .int .i64 k]).run P w = .ok (.tuple #[]) w' ∧ MapAt w' b (mdel f k) ∧ w.grownBy w' (some b) := by
  obtain ⟨es, c, hb, hs, hi⟩ := h
  have hgr : ∀ o, w.grownBy { w with heap := w.heap.setIfInBounds b o } (some b) := fun o => ⟨rfl, rfl, rfl, by simp, fun i _ hn => (Go.MapKept.heap_set hb).2 i (fun e => hn (by rw [e]))⟩
  have hc : ∀ em, (Instr.checkKey em 10000 3 (ik k)).run P w = .ok () w := fun em => Go.MapKept.run_checkKey h3 (ik_key k) em 9999
  rcases Go.MapKept.findNow_spec (ik_key k) es.toList 0 hi.isKey with ⟨h1, h2⟩ | ⟨j, e', h1, h2, h4⟩
  · have hq := Go.MapKept.run_findKey (w := w) h3 h1
    unfold ik at hq hc
    refine ⟨_, by simp [Builtin.delete_, run_underlying hm, Go.MapKept.run_getObj_map hb, hc, hq, Go.MapKept.run_setObj_map _ hb, Result.andThen], ⟨_, _, (Go.MapKept.heap_set hb).1, hs, hi.keys, fun x u => ?_⟩, hgr _⟩
    unfold mdel
    by_cases hx : x = k
    · subst hx
      rw [if_pos rfl]
      constructor
      · intro hu; cases hu
      · rintro ⟨y, hy, hy1, _⟩; exact absurd hy1 (h2 y hy)
    · rw [if_neg hx]; exact hi.at_ x u
  · have hj : es[j]? = some e' := by simpa using h2
    have hjs : j < es.size := (Array.getElem?_eq_some_iff.1 hj).1
    have hq := Go.MapKept.run_findKey (w := w) h3 h1
    have hmem : ∀ y, y ∈ (es.eraseIdxIfInBounds j).toList ↔ ∃ i, i ≠ j ∧ es.toList[i]? = some y := fun y => by
      unfold Array.eraseIdxIfInBounds
      rw [dif_pos hjs, Array.toList_eraseIdx, List.mem_eraseIdx_iff_getElem?]
    unfold ik at hq hc
    refine ⟨_, by simp [Builtin.delete_, run_underlying hm, Go.MapKept.run_getObj_map hb, hc, hq, Go.MapKept.run_setObj_map _ hb, Result.andThen], ⟨_, _, (Go.MapKept.heap_set hb).1, Go.MapKept.stamped_erase hs j, fun x hx => ?_, fun x u => ?_⟩, hgr _⟩
    · obtain ⟨i, _, hy⟩ := (hmem x).1 hx
      exact hi.keys x (List.mem_of_getElem? hy)
    · unfold mdel
      by_cases hx : x = k
      · subst hx
        rw [if_pos rfl]
        constructor
        · intro hu; cases hu
        · rintro ⟨y, hy, hy1, _⟩
          obtain ⟨i, hij, hy⟩ := (hmem y).1 hy
          exact absurd (nodup_at hs.2.2 hy h2 (hy1.trans h4.symm)) hij
      · rw [if_neg hx, hi.at_ x u]
        constructor
        · rintro ⟨y, hy, hy1, hy2⟩
          obtain ⟨i, hy⟩ := List.getElem?_of_mem hy
          refine ⟨y, (hmem y).2 ⟨i, fun e => ?_, hy⟩, hy1, hy2⟩
          subst e
          rw [h2] at hy; cases hy
          exact hx (ik_inj (hy1.symm.trans h4))
        · rintro ⟨y, hy, hy1, hy2⟩
          obtain ⟨i, _, hy⟩ := (hmem y).1 hy
          exact ⟨y, List.mem_of_getElem? hy, hy1, hy2⟩
end

/-- Its keys. -/
theorem MapAt.keysOf {w : World} {b : Nat} {f : Int → Option Value} (h : MapAt w b f) : ∃ es clock, w.heap[b]? = some (.map es clock) ∧ ∃ ks : List Int, ks.Nodup ∧ ks.length = es.size ∧ ∀ k, k ∈ ks ↔ (f k).isSome = true := by
  obtain ⟨es, c, hb, hs, hi⟩ := h
  refine ⟨es, c, hb, es.toList.map (fun x => match x.key with | .int _ k => k | _ => 0), ?_, by simp, fun k => ?_⟩
  · have hk : (es.toList.map (·.key)) = (es.toList.map (fun x => match x.key with | .int _ k => k | _ => 0)).map ik := by
      rw [List.map_map]
      refine List.map_congr_left fun x hx => ?_
      obtain ⟨k, hk⟩ := hi.keys x hx
      simp [hk, ik]
    have := hs.2.2
    rw [hk] at this
    exact List.Pairwise.of_map ik (fun a b h e => h (by rw [e])) this
  · rw [List.mem_map]
    constructor
    · rintro ⟨x, hx, rfl⟩
      obtain ⟨k, hk⟩ := hi.keys x hx
      have := (hi.at_ k x.val).2 ⟨x, hx, hk, rfl⟩
      rw [hk]
      show (f k).isSome = true
      rw [this]; rfl
    · intro hf
      obtain ⟨v, hv⟩ := Option.isSome_iff_exists.1 hf
      obtain ⟨x, hx, hk, _⟩ := (hi.at_ k v).1 hv
      exact ⟨x, hx, by rw [hk]; rfl⟩

section
variable {F : Fence} {n : Nat} {P : Program} {w : World} {ops : Array Oper} {rest : List Oper} {a : Act} {Q : Exit → Act → World → Prop} {dst : Option Tmp} {ty : TypeId} {pos : String} {after : Array Edge}
theorem map_storeI (mt e : TypeId) (hm : P.underlying mt = some (.map 3 e)) (h3 : P.underlying 3 = some (.int .i64)) (m x y : Operand) (b : Nat) (f : Int → Option Value) (k : Int) (v : Value) (ha : a.eval m = .map (some b)) (hx : a.eval x = .int .i64 k) (hy : a.eval y = v) (hM : MapAt w b f)
    (h : ∀ w', MapAt w' b (mput f k v) → w.grownBy w' (some b) → wpListIn F n P ops Q rest (a.put dst undef) w') : wpListIn F n P ops Q (⟨dst, .mapUpdate mt m x y, ty, pos, after, none⟩ :: rest) a w := by
  refine wpListIn_plain rfl fun K' hK' => ?_
  obtain ⟨w', hrun, r1, r2⟩ := run_update_map hm h3 hM k v
  unfold Oper.wpIn
  refine ⟨by intro f hf; simp [Oper.about] at hf, ?_⟩
  rw [Oper.semAt_plain F _ _ (by intro c hc'; cases hc')]
  simp only [execOp, ha, hx, hy, Sem.run_bind, hrun, Result.andThen_ok, Sem.run_pure]
  exact hK' _ _ (h w' r1 r2)
theorem map_store (mt e : TypeId) (hm : P.underlying mt = some (.map 3 e)) (h3 : P.underlying 3 = some (.int .i64)) (m x y : Operand) (b : Nat) (f : Int → Option Value) (k : Int) (v : Value) (ha : a.eval m = .map (some b)) (hx : a.eval x = .int .i64 k) (hy : a.eval y = v) (hM : MapAt w b f)
    (h : ∀ w', MapAt w' b (mput f k v) → w.grownBy w' (some b) → wpList P ops Q rest (a.put dst undef) w') : wpList P ops Q (⟨dst, .mapUpdate mt m x y, ty, pos, after, none⟩ :: rest) a w := by
  refine wpList_plain rfl fun K' hK' => ?_
  obtain ⟨w', hrun, r1, r2⟩ := run_update_map hm h3 hM k v
  unfold Oper.wp
  simp only [execOp, ha, hx, hy, Sem.run_bind, hrun, Result.andThen_ok, Sem.run_pure]
  exact hK' _ _ (h w' r1 r2)
theorem map_delete (mt e : TypeId) (hm : P.underlying mt = some (.map 3 e)) (h3 : P.underlying 3 = some (.int .i64)) (m x : Operand) (b : Nat) (f : Int → Option Value) (k : Int) (ha : a.eval m = .map (some b)) (hx : a.eval x = .int .i64 k) (hM : MapAt w b f)
    (h : ∀ w', MapAt w' b (mdel f k) → w.grownBy w' (some b) → wpList P ops Q rest (a.put dst (.tuple #[])) w') : wpList P ops Q (⟨dst, .call { callee := .builtin .delete, args := #[m, x], argTypes := #[mt, 3] }, ty, pos, after, none⟩ :: rest) a w := by
  refine wpList_plain rfl fun K' hK' => ?_
  obtain ⟨w', hrun, r1, r2⟩ := run_delete_map hm h3 hM k ty
  unfold Oper.wp execOp
  simp only [resolve, invoke, builtin, Sem.run_bind, Sem.run_pure, Result.andThen_ok, List.map_toArray, List.map_cons, List.map_nil, ha, hx, hrun]
  exact hK' _ _ (h w' r1 r2)
end


/-- Where an entry of a stamp stands. -/
theorem istamp_at {es : Array MapEntry} {c : Nat} (hs : Stamped es c) {j : Nat} {e0 : MapEntry} (h : es.toList[j]? = some e0) : es.findIdx? (fun e => ((e.born : Nat) : Int) == ((e0.born : Nat) : Int)) = some j := by
  obtain ⟨xs⟩ := es
  rw [List.findIdx?_toArray]
  rw [List.findIdx?_eq_some_iff_getElem]
  obtain ⟨hlt, he⟩ := List.getElem?_eq_some_iff.1 h
  refine ⟨hlt, by simp [he], fun i hi => ?_⟩
  simp only [beq_iff_eq, Int.natCast_inj]
  intro e
  have hn := hs.2.1
  have hil : i < xs.length := Nat.lt_trans hi hlt
  have := (List.getElem?_inj (l := xs.map (·.born)) (by rw [List.length_map]; exact hil) hn (j := j)).1 (by
    rw [List.getElem?_map, List.getElem?_map, List.getElem?_eq_getElem hlt, List.getElem?_eq_getElem hil]
    simp only [Option.map_some, Option.some.injEq]
    rw [e, ← he])
  omega
theorem MapIs.push {es : Array MapEntry} {c : Nat} {f : Int → Option Value} (hi : MapIs es.toList f) {k : Int} (v : Value) (h2 : ∀ e ∈ es.toList, e.key ≠ ik k) : MapIs (es.push ⟨ik k, v, c⟩).toList (mput f k v) := by
  refine ⟨fun x hx => ?_, fun x u => ?_⟩
  · simp only [Array.toList_push, List.mem_append, List.mem_singleton] at hx
    rcases hx with hx | rfl
    · exact hi.keys x hx
    · exact ⟨k, rfl⟩
  · simp only [Array.toList_push, List.mem_append, List.mem_singleton]
    unfold mput
    by_cases hx : x = k
    · subst hx
      rw [if_pos rfl]
      constructor
      · intro hu; cases hu; exact ⟨_, .inr rfl, rfl, rfl⟩
      · rintro ⟨y, hy | rfl, hy1, hy2⟩
        · exact absurd hy1 (h2 y hy)
        · simp at hy2; rw [hy2]
    · rw [if_neg hx, hi.at_ x u]
      constructor
      · rintro ⟨y, hy, h⟩; exact ⟨y, .inl hy, h⟩
      · rintro ⟨y, hy | rfl, hy1, hy2⟩
        · exact ⟨y, hy, hy1, hy2⟩
        · exact absurd (ik_inj hy1).symm hx
theorem MapIs.set {es : Array MapEntry} {c : Nat} {f : Int → Option Value} (hi : MapIs es.toList f) {k : Int} (v : Value) {j : Nat} {e0 : MapEntry} (hs : Stamped es c) (h2 : es.toList[j]? = some e0) (h3 : e0.key = ik k) : MapIs (es.modify j (fun e => { e with val := v })).toList (mput f k v) := by
  have hget : ∀ i, (es.modify j (fun e => { e with val := v })).toList[i]? = if j = i then (es.toList[i]?).map (fun e => { e with val := v }) else es.toList[i]? := fun i => by
    rw [Array.getElem?_toList, Array.getElem?_modify, Array.getElem?_toList]
  refine ⟨fun x hx => ?_, fun x u => ?_⟩
  · obtain ⟨i, hx⟩ := List.getElem?_of_mem hx
    rw [hget] at hx
    split at hx
    · rw [Option.map_eq_some_iff] at hx
      obtain ⟨y, hy, rfl⟩ := hx
      exact hi.keys y (List.mem_of_getElem? hy)
    · exact hi.keys x (List.mem_of_getElem? hx)
  · unfold mput
    by_cases hx : x = k
    · subst hx
      rw [if_pos rfl]
      constructor
      · intro hu; cases hu
        exact ⟨{ e0 with val := v }, List.mem_of_getElem? (i := j) (by rw [hget, if_pos rfl, h2]; rfl), h3, rfl⟩
      · rintro ⟨y, hy, hy1, hy2⟩
        obtain ⟨i, hy⟩ := List.getElem?_of_mem hy
        rw [hget] at hy
        split at hy
        · rw [Option.map_eq_some_iff] at hy
          obtain ⟨z, _, rfl⟩ := hy
          rw [← hy2]
        · rename_i hij
          exact absurd (nodup_at hs.2.2 (i := i) (j := j) hy h2 (hy1.trans h3.symm)).symm hij
    · rw [if_neg hx, hi.at_ x u]
      constructor
      · rintro ⟨y, hy, hy1, hy2⟩
        obtain ⟨i, hy⟩ := List.getElem?_of_mem hy
        have hij : j ≠ i := fun e => by
          subst e
          rw [h2] at hy; cases hy
          exact hx (ik_inj (hy1.symm.trans h3))
        exact ⟨y, List.mem_of_getElem? (i := i) (by rw [hget, if_neg hij]; exact hy), hy1, hy2⟩
      · rintro ⟨y, hy, hy1, hy2⟩
        obtain ⟨i, hy⟩ := List.getElem?_of_mem hy
        rw [hget] at hy
        split at hy
        · rw [Option.map_eq_some_iff] at hy
          obtain ⟨z, hz, rfl⟩ := hy
          rename_i hij
          subst hij
          rw [h2] at hz; cases hz
          exact absurd (ik_inj (hy1.symm.trans h3)) hx
        · exact ⟨y, List.mem_of_getElem? hy, hy1, hy2⟩
theorem grown_mapI {w : World} {b : Nat} {o' : Obj} (hb : w.heap[b]? = some o') (o : Obj) : w.grownBy { w with heap := w.heap.setIfInBounds b o } (some b) :=
  ⟨rfl, rfl, rfl, by simp, fun i _ hn => (heap_set hb).2 i (fun e => hn (by rw [e]))⟩
/-- m[k] = v as it is done behind other assignments: the entry is made first, the value is laid into it later. -/
theorem run_entry_map {P : Program} {w : World} {b : Nat} {f : Int → Option Value} {mt e : TypeId} (hm : P.underlying mt = some (.map 3 e)) (h3 : P.underlying 3 = some (.int .i64)) (h : MapAt w b f) {z : Value} (hz : (zeroValue e).run P w = .ok z w) (k : Int) :
    ∃ (v0 : Value) (st : Nat) (w1 : World), (Instr.mapEntry mt (.map (some b)) (.int .i64 k)).run P w = .ok (.tuple #[v0, .int .i64 (st : Int)]) w1 ∧ w.grownBy w1 (some b) ∧ w1.heap.size = w.heap.size ∧
      ∀ (v : Value) (w2 : World), w2.heap[b]? = w1.heap[b]? → ∃ w3, (Instr.entryStore mt (.map (some b)) (.int .i64 (st : Int)) v).run P w2 = .ok () w3 ∧ MapAt w3 b (mput f k v) ∧ w2.grownBy w3 (some b) ∧ w3.heap.size = w2.heap.size := by
  obtain ⟨es, c, hb, hs, hi⟩ := h
  have hc : ∀ em, (Instr.checkKey em 10000 3 (ik k)).run P w = .ok () w := fun em => Go.MapKept.run_checkKey h3 (ik_key k) em 9999
  rcases Go.MapKept.findNow_spec (ik_key k) es.toList 0 hi.isKey with ⟨h1, h2⟩ | ⟨j, e0, h1, h2, h4⟩
  · have hq := Go.MapKept.run_findKey (w := w) h3 h1
    have hpush := stamped_push hs (key := ik k) (val := z) h2
    have hb1 : ({ w with heap := w.heap.setIfInBounds b (Obj.map (es.push ⟨ik k, z, c⟩) (c + 1)) } : World).heap[b]? = some (.map (es.push ⟨ik k, z, c⟩) (c + 1)) := (heap_set hb).1
    have hidx : (es.push ⟨ik k, z, c⟩).findIdx? (fun e => ((e.born : Nat) : Int) == ((c : Nat) : Int)) = some es.size := istamp_at hpush (j := es.size) (e0 := ⟨ik k, z, c⟩) (by simp)
    refine ⟨z, c, { w with heap := w.heap.setIfInBounds b (Obj.map (es.push ⟨ik k, z, c⟩) (c + 1)) }, ?_, grown_mapI hb _, by simp, fun v w2 hw2 => ?_⟩
    · unfold ik at hc hq ⊢
      simp [Instr.mapEntry, run_underlying hm, Go.MapKept.run_getObj_map hb, hc, hq, hz, Go.MapKept.run_setObj_map _ hb, Result.andThen, goInt]
    · have hb2 := hw2.trans hb1
      have hst := (stamped_push hs (key := ik k) (val := v) h2)
      have hmod : (es.push ⟨ik k, z, c⟩).modify es.size (fun e => { e with val := v }) = es.push ⟨ik k, v, c⟩ := by
        apply Array.ext_getElem?
        intro i
        rw [Array.getElem?_modify, Array.getElem?_push, Array.getElem?_push]
        by_cases hi' : es.size = i
        · subst hi'; simp
        · rw [if_neg hi']
          simp [Ne.symm hi']
      refine ⟨_, by simp [Instr.entryStore, Go.MapKept.run_getObj_map hb2, asInt, asIntOf, hidx, Go.MapKept.run_setObj_map _ hb2, Result.andThen] <;> rfl, ⟨_, _, (heap_set hb2).1, ?_, ?_⟩, grown_mapI hb2 _, by simp⟩
      · rw [hmod]; exact hst
      · rw [hmod]; exact hi.push v h2
  · have hj : es[j]? = some e0 := by simpa using h2
    have hq := Go.MapKept.run_findKey (w := w) h3 h1
    have hks := Go.MapKept.run_keyThatStays (P := P) (w := w) (ik_key k)
    have hsame : es.modify j (fun e => { e with key := ik k }) = es := by
      apply Array.ext_getElem?
      intro i
      rw [Array.getElem?_modify]
      by_cases hij : j = i
      · subst hij; rw [if_pos rfl, hj]; simp [← h4]
      · rw [if_neg hij]
    have hidx := istamp_at hs h2
    have hset : { w with heap := w.heap.setIfInBounds b (Obj.map es c) } = w := by
      have hlt := lt_of hb
      have : w.heap.setIfInBounds b (Obj.map es c) = w.heap := by
        apply Array.ext_getElem?
        intro i
        rw [Array.getElem?_setIfInBounds]
        by_cases hij : b = i
        · subst hij; rw [if_pos rfl, if_pos hlt, hb]
        · rw [if_neg hij]
      rw [this]
    refine ⟨e0.val, e0.born, w, ?_, grown_refl _ _, rfl, fun v w2 hw2 => ?_⟩
    · have h4' := h4
      unfold ik at hc hq hks hsame h4'
      simp [Instr.mapEntry, run_underlying hm, Go.MapKept.run_getObj_map hb, hc, hq, hj, h4', hks, hsame, Go.MapKept.run_setObj_map _ hb, Result.andThen, goInt, hset]
    · have hb2 := hw2.trans hb
      have hst := stamped_modify hs j (fun e => { e with val := v }) (fun _ _ => rfl) (fun _ _ _ => rfl)
      exact ⟨_, by simp [Instr.entryStore, Go.MapKept.run_getObj_map hb2, asInt, asIntOf, hidx, Go.MapKept.run_setObj_map _ hb2, Result.andThen], ⟨_, _, (heap_set hb2).1, hst, hi.set v hs h2 h4⟩, grown_mapI hb2 _, by simp⟩
end Go.Proofs.YtinogiidiommkaaGreatDoor.tt
