/-
  The document's All; slices.AppendSeq, slices.Collect of a cache's iterator; slices.Equal of two slices of the same lines: contracts. No condition but what each theorem names.
-/
import Derived.Test.YtjbapfjeildfoaaDoorSk
import Derived.Test.YtjbapfjeildfoaaDoorD5
import Derived.RangeFuncNested
import Derived.RangeFuncCalls
namespace Go.Proofs.YtjbapfjeildfoaaDoor.kk
open Go Go.ChangeShapes Go.WideShapes Go.ChangeAt Go.RowKit Go.Shelf
set_option linter.unusedVariables false
attribute [local go_sem] Oper.semAt_some
attribute [local simp] wide_fn

abbrev LSl (w : World) (v : Value) (ls : List Ln) : Prop := sl.Sl w 36 18 v ls.length (sl.flat ln ls)
theorem lflat_one (ls : List Ln) : ∀ v ∈ sl.flat ln ls, v.oneCell' = true := sl.flat_one ln_one ls
theorem zl_cells : (Value.agg (la zl)).cells.size = 18 := by rfl
theorem lsl_at {w : World} {ad : Option Addr} {m cap : Nat} {ls : List Ln} (h : LSl w (.slice ad m cap) ls) (k : Nat) (x : Ln) (hk : ls[k]? = some x) :
    ∃ g off, ad = some ⟨g, off, none⟩ ∧ m = ls.length ∧ w.rangeAt g (off + k * 18) (ln x) := by
  obtain ⟨v0, h0⟩ : ∃ v, (ln x)[0]? = some v := ⟨_, rfl⟩
  obtain ⟨g, off, ha, hm, hc⟩ := sl.Sl.cellAt h _ _ (sl.flat_at ln_len ls k x 0 v0 hk h0)
  exact ⟨g, off, ha, hm, fun j v hv => by rw [Nat.add_assoc]; exact hc _ _ (sl.flat_at ln_len ls k x j v hk hv)⟩
theorem build_ln (l : Ln) : Array.foldl (fun (cs : Array Value) (x : Value × Nat) => cs.setIfInBounds x.snd x.fst) #[.int .i64 0, .int .u8 0, .int .u32 0, .int .u32 0, .int .u32 0, .int .u32 0, .int .u32 0, .int .u32 0, .int .u32 0, .int .u32 0, .int .u32 0, .int .u32 0, .int .u32 0, .int .u32 0, .int .u32 0, .int .u32 0, .int .u32 0, .int .u32 0] (la l).zipIdx 0 18 = la l := by
  obtain ⟨b, s, d, hd⟩ := l
  match d, hd with
  | [d0, d1, d2, d3, d4, d5, d6, d7, d8, d9, d10, d11, d12, d13, d14, d15], _ => simp [la, ln]
theorem snoc_lsl {w : World} {v' : Value} {ls : List Ln} {l : Ln} (h : sl.Sl w 36 18 v' (ls.length + 1) (sl.flat ln ls ++ ln l)) : LSl w v' (ls ++ [l]) := by
  show sl.Sl _ _ 18 v' (ls ++ [l]).length (sl.flat ln (ls ++ [l]))
  rw [sl.flat_append, sl.flat_single, List.length_append]; exact h
theorem filt_take (ls : List Ln) (k : Nat) (x : Ln) (hx : ls[k]? = some x) : (ls.take (k + 1)).filter live = (ls.take k).filter live ++ (if live x = true then [x] else []) := filt_succ ls k x hx
theorem told_row (ss : List St) : told ss = (rowAll ss).filter live := by
  unfold told rowAll
  induction ss with
  | nil => rfl
  | cons p r ih => rw [List.flatMap_cons, List.flatMap_cons, List.filter_append, ih]
theorem grown_newO {w w1 w2 : World} {o : Option Nat} (h : w.grownBy w1 none) (hg : ∀ k, o = some k → w.heap.size ≤ k) (k : w1.grownBy w2 o) : w.grownBy w2 none :=
  ⟨k.os.trans h.os, k.tape.trans h.tape, k.output.trans h.output, Nat.le_trans h.size k.size, fun i hi hn => (k.block i (Nat.lt_of_lt_of_le hi h.size) (fun e => by have := hg i e.symm; omega)).trans (h.block i hi hn)⟩
theorem binN36 : ∀ x w, (binOp .neq 36 (.agg (la x)) (.agg (la x))).run Tryd.prog w = .ok (.bool false) w := fun x w => by rw [q36n, decide_eq_true rfl]; rfl

set_option maxRecDepth 100000 in
set_option maxHeartbeats 2000000 in
/-- The document's All. -/
theorem rall_any (R : RLoc) (c : Cfg) (ss : List St) (w : World) (hR : Rac w R c ss) :
    Calls Tryd.prog 23 #[.pointer (some ⟨R.b, 0, none⟩)] w fun e w' => ∃ u, e = .returned u ∧ LSl w' u (told ss) ∧ w.grownBy w' none := by
  obtain ⟨i0, hi, hz0, hz1, hz2⟩ := info_parts info36z
  obtain ⟨n, hn⟩ : ∃ n, n = (rowAll ss).length := ⟨_, rfl⟩
  have hn64 : n ≤ 64 := by rw [hn]; exact hR.n64
  have HN := Lib.hid hn
  have HR := Lib.hid (fun w' (h : w.grownBy w' none) => hR.grown h)
  have HC8 : Hid (∀ w', w.grownBy w' none → w'.cell? ⟨R.b, 8, none⟩ = some (.slice (some ⟨R.gl, 0, none⟩) n n)) := Lib.hid fun w' h => by have := (hR.grown h).lines; rw [← hn] at this; exact this
  rw [told_row]
  obtain ⟨ls, hls⟩ : ∃ ls, ls = rowAll ss := ⟨_, rfl⟩
  have HLS := Lib.hid hls
  rw [← hls]
  clear hn hR hls
  go_enter Tryd.func23, Tryd.ntmps23
  go_wp2_with fail
  go_loopw [4, 3] (fun i v wr => ∃ k : Nat, k ≤ n ∧ i = .int .i64 (k : Int) ∧ w.grownBy wr none ∧ LSl wr v ((ls.take k).filter live) ∧ ∀ j, v.ownBlock = some j → w.heap.size ≤ j) (fun i _ _ => n - (intOf i).toNat)
  case atStart => exact ⟨0, Nat.zero_le _, rfl, grown_refl _ _, sl.Sl.nil _ _ _, by simp [Value.ownBlock]⟩
  case round =>
    obtain ⟨k, hk, rfl, hg, hsl, hown⟩ := hrel
    have HG := Lib.hid hg
    have HSL := Lib.hid hsl
    have HOWN := Lib.hid hown
    have c8 := HC8.out _ hg
    clear hg hsl hown
    by_cases hlt : k < n
    · obtain ⟨l, hl⟩ : ∃ l, ls[k]? = some l := ⟨_, List.getElem?_eq_getElem (by have := HN.out; have := HLS.out; rw [this]; omega)⟩
      have hrow := (HR.out _ HG.out).row.at_ k l (by rw [← HLS.out]; exact hl)
      have d1 := hrow 1 _ (ln1 l)
      have HRW := Lib.hid hrow
      have HFT := Lib.hid (filt_take ls k l hl)
      have HLN : Hid (((ls.take k).filter live).length ≤ 64) := Lib.hid (Nat.le_trans (List.length_filter_le _ _) (by rw [List.length_take]; omega))
      clear hl hrow
      by_cases hs : l.s = 0
      · have es : (l.s != 0) = false := by simp [hs]
        have HLV : Hid (live l = false) := Lib.hid (by simp [live, hs])
        clear hs
        go_wp2_with fail
        go_roundw
        case rel => exact ⟨k + 1, by omega, by go_num, HG.out, by rw [HFT.out, HLV.out]; simpa using HSL.out, HOWN.out⟩
        case measure => simp [intOf]; omega
      · have es : (l.s != 0) = true := by simp [hs]
        have HLV : Hid (live l = true) := Lib.hid (by simp [live, hs])
        have hnsz := la_size l
        have hfd := build_ln l
        clear hs
        go_wp2_with (first
          | ((with_reducible refine load_ln l _ R.gl (k * 18) ?_ HRW.out ?_); (rfl))
          | ((with_reducible refine sl.append_sl 53 36 18 i0 (.agg (la zl)) 80 _ _ Tryd.underlying53 hi hz0 hz1 hz2 zl_cells _ ((ls.take k).filter live).length (sl.flat ln ((ls.take k).filter live)) ?_ (HSL.out.grown (grown_alloc (grown_refl wr none) (.cells (la l) 36))) (.slice (some ⟨wr.heap.size, 0, none⟩) 1 1) 1 (ln l) ?_ (sl.src_one' _ wr.heap.size (la l) _ (ln l) 18 Tryd.underlying53 (heap_alloc_new _ _) rfl (ln_len l) (ln_one l)) ?_ ?_ ?_); (rfl); (rfl); (have := HLN.out; unfold maxLen; omega); (have := HLN.out; omega); (intro v5 w5 hsl5 hgr5 hnx5; have HG5 := Lib.hid (grown_newO (grown_alloc HG.out (.cells (la l) 36)) HOWN.out hgr5); have HS5 := Lib.hid (snoc_lsl hsl5); have HO5 := Lib.hid (hnx5.ge (grown_alloc HG.out (.cells (la l) 36)).size HOWN.out); clear hsl5 hgr5 hnx5)))
        go_roundw
        case rel => exact ⟨k + 1, by omega, by go_num, HG5.out, by rw [HFT.out, HLV.out]; exact HS5.out, HO5.out⟩
        case measure => simp [intOf]; omega
    · obtain rfl : k = n := by omega
      have HTK : Hid (ls.take k = ls) := Lib.hid (List.take_of_length_le (by rw [HLS.out, HN.out]; exact Nat.le_refl _))
      go_wp2_with fail
      go_ret
      exact ⟨_, rfl, by have := HSL.out; rw [HTK.out] at this; exact this, HG.out⟩
set_option maxRecDepth 100000 in
set_option maxHeartbeats 1000000 in
theorem equal_yes (v1 v2 : Value) (ls : List Ln) (w : World) (h1 : LSl w v1 ls) (h2 : LSl w v2 ls) (hl : ls.length ≤ 65536) :
    Calls Tryd.prog 24 #[v1, v2] w fun e w' => e = .returned (.bool true) ∧ w.grownBy w' none := by
  obtain ⟨ad1, cap1, rfl⟩ := h1.form
  obtain ⟨ad2, cap2, rfl⟩ := h2.form
  obtain ⟨q, hq⟩ : ∃ q, q = ls.length := ⟨_, rfl⟩
  have HQ := Lib.hid hq
  rw [← hq] at h1 h2 hl ⊢
  have H1 := Lib.hid h1
  have H2 := Lib.hid h2
  have HLL := Lib.hid hl
  clear h1 h2 hq hl
  go_enter Tryd.func24, Tryd.ntmps24
  go_wp2_with fail
  go_loopw [13] (fun i wr => ∃ j : Nat, j ≤ q ∧ i = .int .i64 (j : Int) ∧ w.grownBy wr none) (fun i _ => q - (intOf i).toNat)
  case atStart => exact ⟨0, Nat.zero_le _, rfl, grown_refl _ _⟩
  case round =>
    obtain ⟨j, hj, rfl, hg⟩ := hrel
    have HG := Lib.hid hg
    clear hg
    by_cases hlt : j < q
    · obtain ⟨x, hx⟩ : ∃ x, ls[j]? = some x := ⟨_, List.getElem?_eq_getElem (by have := HQ.out; omega)⟩
      obtain ⟨g1, o1, rfl, hqe1, hr1⟩ := lsl_at (by have := H1.out.grown HG.out; rw [HQ.out] at this; exact this) j x hx
      obtain ⟨g2, o2, rfl, hqe2, hr2⟩ := lsl_at (by have := H2.out.grown HG.out; rw [HQ.out] at this; exact this) j x hx
      clear hqe1 hqe2
      obtain ⟨t', mm, HTT, hagg, hsize, hld, hsz, hst⟩ := named2
      have hl1 : ∀ n, (loadCellsFrom ⟨g1, o1 + j * 18, none⟩ 0 mm #[]).run Tryd.prog (wr.drewN n) = .ok (la x) (wr.drewN n) := fun n => hld g1 (o1 + j * 18) x _ (range_grown hr1 (grown_drewN _ n none) (by simp))
      have hl2 : ∀ n, (loadCellsFrom ⟨g2, o2 + j * 18, none⟩ 0 mm #[]).run Tryd.prog (wr.drewN n) = .ok (la x) (wr.drewN n) := fun n => hld g2 (o2 + j * 18) x _ (range_grown hr2 (grown_drewN _ n none) (by simp))
      have hqn := binN36 x
      have hll := HLL.out
      clear hr1 hr2 hld hx hsz hst
      go_wp2_with fail
      rw [HTT.out.1]
      go_quiet (fail)
      go_wp2_with fail
      go_roundw
      case rel => exact ⟨j + 1, by omega, by go_num, grown_trans HG.out (grown_drewN _ _ _)⟩
      case measure => simp [intOf]; omega
    · go_wp2_with fail
      go_ret
      exact ⟨rfl, HG.out⟩
end Go.Proofs.YtjbapfjeildfoaaDoor.kk
