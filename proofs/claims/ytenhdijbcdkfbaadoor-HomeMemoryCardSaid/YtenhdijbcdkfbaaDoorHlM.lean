/-
  HomeMemory: a map keyed by blocks, and the walk. Condition: the tables lie in their variables as the program's text has them; the notes lie where the argument says.
-/
import Derived.Test.YtenhdijbcdkfbaaDoorHlA
import Derived.Test.YtenhdijbcdkfbaaDoorMp
namespace Go.Proofs.YtenhdijbcdkfbaaDoor.hh
open Go Go.ChangeShapes Go.WideShapes Go.ChangeAt Go.RowKit
open Go.Proofs.YtenhdijbcdkfbaaDoor.tt (Nt Cfg fits net bare zd usd uses coreOf ok_ends MapAt mput mdel ik NPool NSl Turn flat na nt zn grown_alloc grown_refl grown_trans tyne lt_of)
open Go.Proofs.YtenhdijbcdkfbaaDoor.en (En gets back asked asks free ask_parts may_parts ea)
open Go.Proofs.YtenhdijbcdkfbaaDoor.mm (wi wo ones wo_lt)
set_option linter.unusedVariables false
set_option linter.unusedSimpArgs false

/-- Sixteen words. -/
def Wide (x : List Int) : Prop := x.length = 16 ∧ ∀ z ∈ x, (Lit.int .u32 z).wf = true
section
variable {H : Type} {enc : TypeId × Value → H} {W : World} {d : DataW H} {p : List MemPlace}
set_option maxRecDepth 100000 in
/-- A note's cells. -/
theorem ntw_trod {base fuel : Nat} {sp : Nat → Bool} {held : Bool} {cs : List Value} {x : DataW H × List MemPlace} (hf : DataW.trod enc Tryd.prog W base sp held fuel 31 cs = some x) : ∃ n : Nt, cs = nt n ∧ Word n ∧ Wide n.d := by
  obtain ⟨ys, m, _, hx, hsz, hyl, hat⟩ := DataW.trod_struct Tryd.underlying31 hf
  rw [cellsN] at hsz
  match cs, hsz, ys, hyl with
  | v0 :: v1 :: v2 :: v3 :: v4 :: v5 :: v6 :: v7 :: L, hsz, [y0, y1, y2, y3, y4, y5, y6, y7, y8], _ =>
    have hL : L.length = 16 := by simpa using hsz
    have e0 := hat 0 _ rfl
    have e1 := hat 1 _ rfl
    have e2 := hat 2 _ rfl
    have e3 := hat 3 _ rfl
    have e4 := hat 4 _ rfl
    have e5 := hat 5 _ rfl
    have e6 := hat 6 _ rfl
    have e7 := hat 7 _ rfl
    have e8 := hat 8 _ rfl
    dsimp at e0 e1 e2 e3 e4 e5 e6 e7 e8
    rw [cells5] at e0
    rw [cells3] at e1 e2 e3
    rw [cellsSt] at e4
    rw [cellsS] at e5
    rw [cells4] at e6 e7
    rw [cellsD] at e8
    simp only [List.drop_succ_cons, List.drop_zero] at e8
    rw [List.take_of_length_le (show L.length ≤ 16 by omega)] at e8
    obtain ⟨z0, a0, b0, w0⟩ := DataW.trod_int Tryd.underlying5 e0
    obtain ⟨z1, a1, b1, w1⟩ := DataW.trod_int Tryd.underlying3 e1
    obtain ⟨z2, a2, b2, w2⟩ := DataW.trod_int Tryd.underlying3 e2
    obtain ⟨z3, a3, b3, w3⟩ := DataW.trod_int Tryd.underlying3 e3
    obtain ⟨z4, a4, b4, w4⟩ := DataW.trod_int Tryd.underlying25 e4
    obtain ⟨z5, a5, b5, w5⟩ := DataW.trod_int Tryd.underlying26 e5
    obtain ⟨z6, a6, b6⟩ := DataW.trod_bool Tryd.underlying4 e6
    obtain ⟨z7, a7, b7⟩ := DataW.trod_bool Tryd.underlying4 e7
    obtain ⟨xs, m8, _, _, _, hxl, hel⟩ := DataW.trod_array Tryd.underlying29 e8
    rw [cellsW] at hel
    simp at a0 a1 a2 a3 a4 a5 a6 a7
    have each : ∀ i, i < 16 → ∃ z : Int, L[i]? = some (.int .u32 z) ∧ (Lit.int .u32 z).wf = true := fun i hi => by
      have h1 := hel i hi
      have hc : ((L.drop (i * 1)).take 1) = [L[i]] := by
        rw [Nat.mul_one, List.take_one, List.head?_drop]
        simp [hL, hi]
      rw [hc, List.getElem?_eq_getElem (by omega)] at h1
      obtain ⟨z, e, _, hw⟩ := DataW.trod_int Tryd.underlying27 h1
      refine ⟨z, ?_, hw⟩
      rw [List.getElem?_eq_getElem (by omega)]
      simpa using e
    obtain ⟨q, hq⟩ := Go.Deep.choose_lt each
    refine ⟨⟨z0, z1, z2, z3, z4, z5, z6, z7, (List.range 16).map q, by simp⟩, ?_⟩
    subst a0 a1 a2 a3 a4 a5 a6 a7
    have hLq : L = ((List.range 16).map q).map tt.U := by
      apply List.ext_getElem?
      intro i
      by_cases hi : i < 16
      · rw [(hq i hi).1]; simp [List.getElem?_range hi, tt.U]
      · rw [List.getElem?_eq_none (by omega), List.getElem?_eq_none (by simp; omega)]
    rw [hLq]
    refine ⟨rfl, ?_⟩
    have := bounds_u64 w4
    refine ⟨⟨this.1, by show z4 < _; omega⟩, by simp, fun z hz => ?_⟩
    obtain ⟨i, hi, rfl⟩ := List.mem_map.1 hz
    exact (hq i (by simpa using hi)).2

theorem notesw_at {a0 : Option Addr} {len cap : Nat} (h : DataW.Trod enc Tryd.prog W 0 (fun _ => true) true 42 (.slice a0 len cap) d p) : ∃ ns : List Nt, len = ns.length ∧ NotesAt W a0 ns ∧ ∀ n ∈ ns, Word n ∧ Wide n.d := by
  obtain ⟨fuel, hf⟩ := h
  rcases Go.Deep.open_slice Tryd.underlying42 hf with ⟨hcs, hx⟩ | ⟨a, len', cap', m, n, D, Pl, hcs, _, hl, hm, hmm, hx, hcell⟩
  · simp [Value.cells] at hcs
    obtain ⟨rfl, rfl, rfl⟩ := hcs
    exact ⟨[], rfl, fun k x hk => by simp at hk, fun n hn => by cases hn⟩
  · simp [Value.cells] at hcs
    obtain ⟨rfl, rfl, rfl⟩ := hcs
    simp only [if_true] at hmm
    subst hmm
    have each : ∀ i, i < len → ∃ q : Nt, ∃ b off, a.add (i * 24) = ⟨b, off, none⟩ ∧ W.rangeAt b off (nt q) ∧ Word q ∧ Wide q.d := by
      intro i hi
      obtain ⟨cs', h1, h2⟩ := hcell i (by omega)
      rw [cellsN] at h1
      obtain ⟨q, rfl, hw⟩ := ntw_trod h2
      obtain ⟨b, off, ha, hr⟩ := cells_range h1 (by omega)
      exact ⟨q, b, off, ha, hr, hw⟩
    obtain ⟨q, hq⟩ := Go.Deep.choose_lt each
    refine ⟨(List.range len).map q, by simp, fun k x hk => ?_, fun n hn => ?_⟩
    · rw [List.getElem?_map, Option.map_eq_some_iff] at hk
      obtain ⟨y, hy, rfl⟩ := hk
      obtain ⟨hy1, hy2⟩ := List.getElem?_eq_some_iff.1 hy
      simp at hy1 hy2
      subst hy2
      obtain ⟨b, off, ha, hr, _⟩ := hq k hy1
      obtain ⟨b0, off0, ha0, _⟩ := hq 0 (by omega)
      have e0 : a = ⟨b0, off0, none⟩ := by rw [← ha0]; simp [Addr.add]
      subst e0
      rw [tt.add_lit] at ha
      cases ha
      exact ⟨_, _, rfl, hr⟩
    · obtain ⟨i, hi, rfl⟩ := List.mem_map.1 hn
      obtain ⟨_, _, _, _, hw⟩ := hq i (by simpa using hi)
      exact hw
end
theorem karr16 : Go.WideMaps.ArrKey Tryd.prog 29 27 16 := ⟨Tryd.underlying29, by kernel_rfl, by kernel_rfl, by kernel_rfl⟩
theorem klaw16 : Go.WideMaps.KeyLaw Tryd.prog 29 := karr16.law
theorem types16 : ∃ m, Tryd.prog.types.size = m + 1 := by
  have : 0 < Tryd.prog.types.size := by decide +kernel
  exact ⟨Tryd.prog.types.size - 1, by omega⟩
theorem kb_key {x : List Int} (h : Wide x) : ∃ l, keyOf Tryd.prog 29 (.agg (pp.row x)) = some l := by
  obtain ⟨hl, hw⟩ := h
  match x, hl with
  | [d0, d1, d2, d3, d4, d5, d6, d7, d8, d9, d10, d11, d12, d13, d14, d15], _ =>
    have hkt := karr16.keyType types16
    obtain ⟨m, hm⟩ := types16
    have hu := karr16.hu
    have hz := karr16.size
    have h1 := karr16.one
    unfold keyOf
    simp only [hu]
    rw [if_pos (by simp [hkt, Value.formed, hu, hz, pp.row]), hm]
    unfold Program.keyLits
    simp only [hu, Value.cells]
    rw [if_pos (by rw [hz]; rfl), show List.range 16 = [0, 1, 2, 3, 4, 5, 6, 7, 8, 9, 10, 11, 12, 13, 14, 15] from rfl]
    simp only [List.mem_cons, List.mem_nil_iff, or_false, forall_eq_or_imp, forall_eq] at hw
    obtain ⟨w0, w1, w2, w3, w4, w5, w6, w7, w8, w9, w10, w11, w12, w13, w14, w15⟩ := hw
    simp [List.mapM_cons, List.mapM_nil, h1, Program.keyLits, Tryd.underlying27, pp.row, pp.U, w0, w1, w2, w3, w4, w5, w6, w7, w8, w9, w10, w11, w12, w13, w14, w15]
/-- The block b is a map that has each of these blocks. -/
def BMap (w : World) (b : Nat) (S : List (List Int)) : Prop := ∃ es clock, w.heap[b]? = some (.map es clock) ∧ MapKept.Stamped es clock ∧ (∀ x ∈ es.toList, (∃ l, keyOf Tryd.prog 29 x.key = some l) ∧ x.val = .bool true) ∧ (∀ r ∈ S, Wide r ∧ ∃ e ∈ es.toList, e.key = .agg (pp.row r))
theorem BMap.lt {w : World} {b : Nat} {S} (h : BMap w b S) : b < w.heap.size := by
  obtain ⟨es, c, hb, _⟩ := h; exact lt_of hb
theorem BMap.same {w w' : World} {b : Nat} {S} (h : BMap w b S) (hb : w'.heap[b]? = w.heap[b]?) : BMap w' b S := by
  obtain ⟨es, c, h1, h2⟩ := h; exact ⟨es, c, hb.trans h1, h2⟩
theorem BMap.grown {w w' : World} {b : Nat} {S} (h : BMap w b S) (hg : w.grownBy w' none) : BMap w' b S := h.same (hg.block b h.lt (by simp))
theorem BMap.new (w : World) : BMap (w.alloc (.map #[] 0)) w.heap.size [] := ⟨#[], 0, heap_alloc_new _ _, MapKept.stamped_empty 0, fun x hx => by simp at hx, fun r hr => by cases hr⟩
section
variable {w : World} {b : Nat} {S : List (List Int)}
theorem look_bm (h : BMap w b S) (r : List Int) (hr : r ∈ S) : (Instr.lookup 72 (.map (some b)) (.agg (pp.row r)) false).run Tryd.prog w = .ok (.bool true) w := by
  obtain ⟨es, c, hb, hs, hk, hS⟩ := h
  obtain ⟨hw, e0, he0, hek⟩ := hS r hr
  obtain ⟨l, hl⟩ := kb_key hw
  have hc := fun em => klaw16.check w em hl
  rcases klaw16.find w hl es.toList (fun x hx => (hk x hx).1) with ⟨h1, h2⟩ | ⟨j, e, h1, h2, h3⟩
  · exact absurd hek (h2 e0 he0)
  · have hv := (hk e (List.mem_of_getElem? h2)).2
    simp [Instr.lookup, run_underlying Tryd.underlying72, MapKept.run_getObj_map hb, hc, h1, Result.andThen, hv]
theorem put_bm (h : BMap w b S) (r : List Int) (hw : Wide r) : ∃ w1, (Instr.mapUpdate 72 (.map (some b)) (.agg (pp.row r)) (.bool true)).run Tryd.prog w = .ok () w1 ∧ BMap w1 b (r :: S) ∧ w.grownBy w1 (some b) := by
  obtain ⟨es, c, hb, hs, hk, hS⟩ := h
  obtain ⟨l, hl⟩ := kb_key hw
  have hc := fun em => klaw16.check w em hl
  rcases klaw16.find w hl es.toList (fun x hx => (hk x hx).1) with ⟨h1, h2⟩ | ⟨j, e0, h1, h2, h3⟩
  · refine ⟨{ w with heap := w.heap.setIfInBounds b (Obj.map (es.push ⟨.agg (pp.row r), .bool true, c⟩) (c + 1)) }, ?_, ⟨_, _, (MapKept.heap_set hb).1, MapKept.stamped_push hs h2, fun x hx => ?_, fun q hq => ?_⟩, tt.grown_mapI hb _⟩
    · simp [Instr.mapUpdate, run_underlying Tryd.underlying72, MapKept.run_getObj_map hb, hc, h1, MapKept.run_setObj_map _ hb, Result.andThen]
    · simp only [Array.toList_push, List.mem_append, List.mem_singleton] at hx
      rcases hx with hx | rfl
      · exact hk x hx
      · exact ⟨⟨_, hl⟩, rfl⟩
    · simp only [Array.toList_push, List.mem_append, List.mem_singleton]
      rcases List.mem_cons.1 hq with rfl | hq
      · exact ⟨hw, _, .inr rfl, rfl⟩
      · obtain ⟨a1, e, a2, a3⟩ := hS q hq
        exact ⟨a1, e, .inl a2, a3⟩
  · have hj : es[j]? = some e0 := by simpa using h2
    have hks := klaw16.stays w hl
    have hget : ∀ i, (es.modify j (fun e => { e with key := .agg (pp.row r), val := .bool true })).toList[i]? = if j = i then (es.toList[i]?).map (fun e => { e with key := .agg (pp.row r), val := .bool true }) else es.toList[i]? := fun i => by
      rw [Array.getElem?_toList, Array.getElem?_modify, Array.getElem?_toList]
    have hst : MapKept.Stamped (es.modify j (fun e => { e with key := .agg (pp.row r), val := .bool true })) c := MapKept.stamped_modify hs j _ (fun _ _ => rfl) (fun x _ hx => by
      have : x = e0 := by rw [hj] at hx; exact (Option.some.inj hx).symm
      subst this; exact h3.symm)
    refine ⟨{ w with heap := w.heap.setIfInBounds b (Obj.map (es.modify j (fun e => { e with key := .agg (pp.row r), val := .bool true })) c) }, ?_, ⟨_, _, (MapKept.heap_set hb).1, hst, fun x hx => ?_, fun q hq => ?_⟩, tt.grown_mapI hb _⟩
    · simp [Instr.mapUpdate, run_underlying Tryd.underlying72, MapKept.run_getObj_map hb, hc, h1, hj, h3, hks, MapKept.run_setObj_map _ hb, Result.andThen]
    · obtain ⟨i, hx⟩ := List.getElem?_of_mem hx
      rw [hget] at hx
      split at hx
      · rw [Option.map_eq_some_iff] at hx
        obtain ⟨y, hy, rfl⟩ := hx
        exact ⟨⟨_, hl⟩, rfl⟩
      · exact hk x (List.mem_of_getElem? hx)
    · rcases List.mem_cons.1 hq with rfl | hq
      · exact ⟨hw, { e0 with key := .agg (pp.row q), val := .bool true }, List.mem_of_getElem? (i := j) (by rw [hget, if_pos rfl, h2]; rfl), rfl⟩
      · obtain ⟨a1, e, a2, a3⟩ := hS q hq
        refine ⟨a1, ?_⟩
        obtain ⟨i, he⟩ := List.getElem?_of_mem a2
        by_cases hij : j = i
        · subst hij
          rw [h2] at he; cases he
          exact ⟨{ e0 with key := .agg (pp.row r), val := .bool true }, List.mem_of_getElem? (i := j) (by rw [hget, if_pos rfl, h2]; rfl), by rw [← a3, h3]⟩
        · exact ⟨e, List.mem_of_getElem? (i := i) (by rw [hget, if_neg hij]; exact he), a3⟩
end
section
variable {w : World} {ops : Array Oper} {rest : List Oper} {a : Act} {Q : Exit → Act → World → Prop} {dst : Option Tmp} {ty' : TypeId} {pos : String} {after : Array Edge} {gd : Option (Nat × Bool)} {b : Nat} {S : List (List Int)}
set_option maxRecDepth 100000 in
theorem ins_bm (hM : BMap w b S) (r : List Int) (hr : Wide r) (m y : Tmp) (hm : a.eval (.tmp m) = .map (some b)) (hy : a.eval (.tmp y) = .agg (pp.row r)) (k : ∀ w1, BMap w1 b (r :: S) → w.grownBy w1 (some b) → wpList Tryd.prog ops Q rest (a.put dst undef) w1) :
    wpList Tryd.prog ops Q (⟨dst, .insert 72 (.tmp m) (.tmp y) (.const (.bool true)), ty', pos, after, none⟩ :: rest) a w :=
  wpList_plain rfl fun K hK => by
    obtain ⟨w1, hrun, h1, h2⟩ := put_bm hM r hr
    unfold Oper.wp execOp
    have he : a.eval (.const (.bool true)) = .bool true := rfl
    simp only [hm, hy, he, Sem.run_bind, hrun, Result.andThen_ok]
    exact hK _ _ (k w1 h1 h2)
set_option maxRecDepth 100000 in
theorem upd_bm (hM : BMap w b S) (r : List Int) (hr : Wide r) (m y : Tmp) (hm : a.eval (.tmp m) = .map (some b)) (hy : a.eval (.tmp y) = .agg (pp.row r)) (k : ∀ w1, BMap w1 b (r :: S) → w.grownBy w1 (some b) → wpList Tryd.prog ops Q rest (a.put dst undef) w1) :
    wpList Tryd.prog ops Q (⟨dst, .mapUpdate 72 (.tmp m) (.tmp y) (.const (.bool true)), ty', pos, after, none⟩ :: rest) a w :=
  wpList_plain rfl fun K hK => by
    obtain ⟨w1, hrun, h1, h2⟩ := put_bm hM r hr
    unfold Oper.wp execOp
    have he : a.eval (.const (.bool true)) = .bool true := rfl
    simp only [hm, hy, he, Sem.run_bind, hrun, Result.andThen_ok]
    exact hK _ _ (k w1 h1 h2)
/-- A note's data. -/
theorem load_d (n : Nt) (x : Tmp) (g : Nat) (hx : a.eval (.tmp x) = .pointer (some ⟨g, 8, none⟩)) (hg : w.rangeAt g 0 (nt n)) (h : wpList Tryd.prog ops Q rest (a.put dst (.agg (pp.row n.d))) w) : wpList Tryd.prog ops Q (⟨dst, .load 29 (.tmp x), ty', pos, after, none⟩ :: rest) a w :=
  wpList_load_mid rfl 29 (.tmp x) rfl g 8 hx (n.d.map tt.U) _ (fun j v hv => by have := hg (8 + j) v (by rw [Nat.add_comm]; exact hv); rwa [Nat.zero_add] at this) Tryd.underlying29 rfl (by rw [List.length_map, n.hd]; exact pp.info30) h
/-- A block out of a variable, where it is wanted. -/
theorem load_gb (r : List Int) (x : Tmp) (g : Nat) (hx : a.eval (.tmp x) = .pointer (some ⟨g, 0, none⟩)) (hw : Region.wanted ⟨dst, .load 29 (.tmp x), ty', pos, after, gd⟩ (yielded ops a.tmps) = true) (hg : w.heap[g]? = some (.cells (pp.row r) 29 (0, 0))) (hr : r.length = 16)
    (h : wpList Tryd.prog ops Q rest (a.put dst (.agg (pp.row r))) w) : wpList Tryd.prog ops Q (⟨dst, .load 29 (.tmp x), ty', pos, after, gd⟩ :: rest) a w := by
  show (if _ then _ else _)
  rw [if_pos hw]
  exact .inl (wp_load_row 29 (.tmp x) rfl g hx 29 (pp.row r) (0, 0) _ hg Tryd.underlying29 rfl (pp.info30' _ hr) h)
end
theorem Own.bm {w w1 w2 : World} {h : Nat} {c : Cfg} {F : Ft} {H : Hm} (O : Own w w1 h c F H) {b : Nat} {S} (hM : BMap w1 b S) (hn : ¬ F.own b) (hB : w.heap.size ≤ b) (hg : w1.grownBy w2 (some b)) : Own w w2 h c F H := by
  obtain ⟨es, ck, hb, _⟩ := hM
  have A := O.at'
  refine ⟨A.other hg hn (fun e => by subst e; rw [A.blk] at hb; cases hb) (fun e => by subst e; rw [A.mem.blk] at hb; cases hb) (fun cs fr e => by rw [e] at hb; cases hb), ?_, O.fresh⟩
  have g := O.old
  exact ⟨hg.os.trans g.os, hg.tape.trans g.tape, hg.output.trans g.output, Nat.le_trans g.size hg.size, fun k hk _ => (hg.block k (Nat.lt_of_lt_of_le hk g.size) (fun e => by cases e; omega)).trans (g.block k hk (by simp))⟩
theorem Did.mem {w w' : World} {h : Nat} {c : Cfg} {F F' : Ft} {H : Hm} (D : Did w w' F F') (A : HomeAt w h c F H) {b : Nat} {v : Value} {bs : List (List Int)} (M : pp.Mem w b v bs) (hb : ¬ F.own b) (hv : ∀ k, v.ownBlock = some k → ¬ F.own k) : pp.Mem w' b v bs := by
  obtain ⟨ps, hs, _, _⟩ := M.sl
  exact mem_of_block M (D.block b M.lt hb) (fun k hk => D.block k (hs.lt k hk) (hv k hk)) (fun q cs fr e => D.block q (lt_of e) (A.not_own e (by decide) (by decide) (by decide) (by decide)))
/-- Who waits behind a note. -/
theorem begin1_wt' (H : Hm) (n : Nt) : (begin1 H n).1.wt = H.wt := begin1_wt H n
theorem run_wt (b : Nat) : ∀ (rest : List Nt) (H : Hm) (pre : List Nt), ∀ m ∈ (run b H pre rest).1.wt, m ∈ pre ++ rest
  | [], H, pre => fun m hm => by simpa [run] using hm
  | n :: rest, H, pre => fun m hm => by
    unfold run at hm
    split at hm
    · exact hm
    · split at hm
      · have := run_wt b rest (begin1 H n).1 pre m hm
        rcases List.mem_append.1 this with h | h
        · exact List.mem_append_left _ h
        · exact List.mem_append_right _ (by simp [h])
      · have := run_wt b rest H (pre ++ [n]) m hm
        simpa [List.append_assoc] using this
theorem take_wt {c : Cfg} {H : Hm} (h : Inv c H) (n : Nt) : ∀ m ∈ (take c H n).1.wt, m ∈ n :: H.wt := fun m hm => by
  by_cases hr : ready c H n = 0
  · rcases take_ways h n hr with ⟨_, _, _, e⟩ | ⟨_, _, e⟩ | ⟨_, _, e⟩ | ⟨_, j, _, _, _, ⟨_, e⟩ | ⟨_, _, e⟩ | ⟨_, _, e⟩⟩ <;> rw [e] at hm
    · rcases List.mem_append.1 hm with h | h
      · simp [h]
      · rw [List.mem_singleton.1 h]; simp
    · have hm' : m ∈ (begin1 H n).1.wt := hm
      rw [begin1_wt] at hm'; simp [hm']
    · have := run_wt _ _ _ _ m hm
      simp at this; simp [this]
    · have hm' : m ∈ H.wt := hm
      simp [hm']
    · have := run_wt _ _ _ _ m hm
      simp at this; simp [this]
    · have hm' : m ∈ (answer _ _).1.wt := hm
      unfold answer at hm'
      have : m ∈ H.wt := by split at hm' <;> exact hm'
      simp [this]
  · rw [take_err hr] at hm
    have hm' : m ∈ H.wt := hm
    simp [hm']
/-- What a note makes of the memory, as the law asks. -/
theorem memory_facts {c : Cfg} {H : Hm} (h : Inv c H) (n : Nt) (hw : Word n) (S : List (List Int)) (hn : n.h = true → n.d ∈ S) (hS : ∀ m ∈ H.wt, m.h = true → m.d ∈ S) (b : Nat) (hne : pp.getB H.mm (b : Int) ≠ pp.getB (take c H n).1.mm (b : Int)) :
    ready c H n = 0 ∧ pp.getB (take c H n).1.mm (b : Int) ∈ S ∧ n.b = (b : Int) ∧ (n.k = 3 ∨ n.k = 9 ∨ n.k = 11 ∨ n.k = 10) := by
  have hr : ready c H n = 0 := by
    refine Classical.byContradiction fun hr => hne ?_
    rw [take_err hr]
  obtain ⟨hf, ht⟩ := ready_fits hr
  obtain ⟨hb0, hb⟩ := blk_lt hf
  have hlen : (take c H n).1.mm.length = H.mm.length := by
    rw [(h.take n hw).lm, h.lm]
  have hrow := take_row h n hw b
  have hg : ∀ (l : List (List Int)), pp.getB l (b : Int) = if b < l.length then l.getD b [] else pp.zero := fun l => by
    unfold pp.getB pp.inb
    by_cases hl : b < l.length
    · rw [if_pos hl, if_pos (by simp; omega)]; simp
    · rw [if_neg hl, if_neg (by simp; omega)]
  rw [hg, hg, hlen] at hne
  rcases hrow with e | ⟨e1, m, hm, hmh, e2⟩
  · refine absurd ?_ hne
    rw [List.getD_eq_getElem?_getD, List.getD_eq_getElem?_getD, e]
  · have hbl : b < H.mm.length := by
      refine Classical.byContradiction fun hbl => hne ?_
      rw [if_neg hbl, if_neg hbl]
    refine ⟨hr, ?_, by omega, ?_⟩
    · rw [hg, hlen, if_pos hbl, List.getD_eq_getElem?_getD, e2]
      show m.d ∈ S
      rcases List.mem_cons.1 hm with rfl | hm
      · exact hn hmh
      · exact hS m hm hmh
    · obtain ⟨hk, _⟩ := to_home hf ht
      by_cases h12 : n.k = 1 ∨ n.k = 2
      · refine absurd ?_ hne
        rw [take_asks_mm h n h12]
      · omega
end Go.Proofs.YtenhdijbcdkfbaaDoor.hh
