/-
  What the document's own Find, Turn, Write answer, and what its cache is behind them: contracts. Condition: that a line stands in its block's set alone.
-/
import Derived.Test.YtjbapfjeildfoaaDoorD1
namespace Go.Proofs.YtjbapfjeildfoaaDoor.kk
open Go Go.ChangeShapes Go.WideShapes Go.ChangeAt Go.RowKit Go.Shelf
set_option linter.unusedVariables false

section
variable (R : RLoc) (c : Cfg) (ss : List St) (w : World) (hR : Rac w R c ss) (hI : Inv c ss)
include hR hI
theorem rfind_any (b : Int) : Calls Tryd.prog 44 #[.pointer (some ⟨R.b, 0, none⟩), .int .i64 b] w fun e w' => e = .returned (.tuple #[.agg (la (cfind c ss b).1), .bool (cfind c ss b).2]) ∧ w.grownBy w' none := by
  unfold cfind
  have hg0 : w.grownBy (w.alloc (.cells (la zl) 36)) none := grown_alloc (grown_refl _ _) _
  have HB : Hid (w.grownBy (w.alloc (.cells (la zl) 36)) none ∧ (w.alloc (.cells (la zl) 36)).heap[w.heap.size]? = some (.cells (la zl) 36 (0, 0))) := Lib.hid ⟨hg0, heap_alloc_new _ _⟩
  have HZ : Hid (la zl = _) := Lib.hid zl_la
  cases hn : (setAt c ss b).1.findIdx? (isOf b) with
  | none =>
    have HN := Lib.hid (rplace_no R c ss _ (hR.grown hg0) hI b hn)
    rw [HZ.out] at HN HB
    clear hR hI hn hg0
    go_enter Tryd.func44, Tryd.ntmps44
    go_wp2_with (first
      | (go_at_call 56; ((with_reducible refine HN.out.mono ?_); rintro e w1 ⟨rfl, rfl⟩))
      | ((with_reducible refine store_any zl zl 4 12 w.heap.size ?_ ?_ ?_ ?_); ((rfl)); ((rfl)); ((exact HB.out.2))))
    exact ret_ln rfl _ zl _ w.heap.size _ _ (by rfl) (by rfl) (range_of (setRow_heap _ _ _ _ _ _ HB.out.2)) (by exact ⟨rfl, grown_setRow HB.out.1 _ (Nat.le_refl _) _⟩)
  | some k =>
    have HN := Lib.hid (rplace_yes R c ss _ (hR.grown hg0) hI b k hn)
    have hlt := idx_lt hn
    have c8 := (hR.grown hg0).lines
    obtain ⟨l, hl⟩ : ∃ l, (setAt c ss b).1[k]? = some l := ⟨_, List.getElem?_eq_getElem hlt⟩
    have hgd : (setAt c ss b).1.getD k zl = l := by rw [List.getD_eq_getElem?_getD, hl]; rfl
    simp only [hgd]
    obtain ⟨i, hi⟩ : ∃ i, i = setOf c b * (setAt c ss b).1.length + k := ⟨_, rfl⟩
    have hfl := rowAll_get hR.wid (hR.at b) hl
    rw [← hR.wid _ (List.mem_of_getElem? (hR.at b)), ← hi] at hfl
    have hin : i < (rowAll ss).length := (List.getElem?_eq_some_iff.1 hfl).1
    have HA := Lib.hid ((hR.grown hg0).row.at_ i l hfl)
    rw [← hi] at HN
    have d0 : decide ((i : Int) < 0) = false := by simp
    rw [HZ.out] at HN HB HA c8
    generalize (rowAll ss).length = n at *
    clear hR hI hn hi hlt hl hgd hfl hg0
    go_enter Tryd.func44, Tryd.ntmps44
    go_wp2_with (first
      | (go_at_call 56; ((with_reducible refine HN.out.mono ?_); rintro e w1 ⟨rfl, rfl⟩))
      | ((with_reducible refine load_ln l 18 R.gl (i * 18) ?_ HA.out ?_); ((go_num)))
      | ((with_reducible refine store_any l zl 4 19 w.heap.size ?_ ?_ ?_ ?_); ((rfl)); ((rfl)); ((exact HB.out.2))))
    exact ret_ln rfl _ l _ w.heap.size _ _ (by rfl) (by rfl) (range_of (setRow_heap _ _ _ _ _ _ HB.out.2)) (by exact ⟨rfl, grown_setRow HB.out.1 _ (Nat.le_refl _) _⟩)
theorem rturn_any (b s : Int) : Calls Tryd.prog 43 #[.pointer (some ⟨R.b, 0, none⟩), .int .i64 b, .int .u8 s] w fun e w' => e = .returned (.int .i64 (cturn c ss b s).2) ∧ Rac w' R c (cturn c ss b s).1 ∧ Kept R.own w w' := by
  unfold cturn
  cases hn : (setAt c ss b).1.findIdx? (isOf b) with
  | none =>
    have HN := Lib.hid (rplace_no R c ss w hR hI b hn)
    have HR := Lib.hid hR
    clear hR hI hn
    go_enter Tryd.func43, Tryd.ntmps43
    go_wp2_with (go_at_call 56; ((with_reducible refine HN.out.mono ?_); rintro e w1 ⟨rfl, rfl⟩))
    go_ret
    exact ⟨rfl, HR.out, Kept.of (grown_refl _ _)⟩
  | some k =>
    have HN := Lib.hid (rplace_yes R c ss w hR hI b k hn)
    have HR := Lib.hid hR
    have hlt := idx_lt hn
    have c8 := hR.lines
    obtain ⟨l, hl⟩ : ∃ l, (setAt c ss b).1[k]? = some l := ⟨_, List.getElem?_eq_getElem hlt⟩
    have hgd : (setAt c ss b).1.getD k zl = l := by rw [List.getD_eq_getElem?_getD, hl]; rfl
    simp only [hgd]
    obtain ⟨i, hi⟩ : ∃ i, i = setOf c b * (setAt c ss b).1.length + k := ⟨_, rfl⟩
    have hfl := rowAll_get hR.wid (hR.at b) hl
    rw [← hR.wid _ (List.mem_of_getElem? (hR.at b)), ← hi] at hfl
    have hin : i < (rowAll ss).length := (List.getElem?_eq_some_iff.1 hfl).1
    have c1 := hR.row.at_ i l hfl 1 _ (ln1 l)
    have f1 := (hR.row.there hin 1 (by omega)).2
    have HE : Hid (Rac (w.setCell ⟨R.gl, i * 18 + 1, none⟩ (.int .u8 s)) R c (ss.set (setOf c b) ((setAt c ss b).1.set k (l.state s), (setAt c ss b).2)) ∧ Kept R.own w (w.setCell ⟨R.gl, i * 18 + 1, none⟩ (.int .u8 s))) := Lib.hid
      ⟨hR.setLine (hR.at b) hlt (l.state s) (grown_setCell _ _ _ _) (by rw [← hi]; exact hR.row.cell i hin l (l.state s) hfl 1 (by omega) _ rfl), Kept.one (grown_setCell _ _ _ _) (.inl rfl)⟩
    rw [← hi] at HN
    have d0 : decide ((i : Int) < 0) = false := by simp
    generalize (rowAll ss).length = n at *
    clear hR hI hn hi hlt hl hgd hfl
    by_cases h1 : s < 1
    · have e1 : decide (s < 1) = true := by simp; omega
      rw [if_neg (by omega)]
      clear h1
      go_enter Tryd.func43, Tryd.ntmps43
      go_wp2_with (go_at_call 56; ((with_reducible refine HN.out.mono ?_); rintro e w1 ⟨rfl, rfl⟩))
      go_ret
      exact ⟨rfl, HR.out, Kept.of (grown_refl _ _)⟩
    · have e1 : decide (s < 1) = false := by simp; omega
      by_cases h2 : 3 < s
      · have e2 : decide (3 < s) = true := by simp; omega
        rw [if_neg (by omega)]
        clear h1 h2
        go_enter Tryd.func43, Tryd.ntmps43
        go_wp2_with (go_at_call 56; ((with_reducible refine HN.out.mono ?_); rintro e w1 ⟨rfl, rfl⟩))
        go_ret
        exact ⟨rfl, HR.out, Kept.of (grown_refl _ _)⟩
      · have e2 : decide (3 < s) = false := by simp; omega
        rw [if_pos (by omega)]
        clear h1 h2
        go_enter Tryd.func43, Tryd.ntmps43
        go_wp2_with (go_at_call 56; ((with_reducible refine HN.out.mono ?_); rintro e w1 ⟨rfl, rfl⟩))
        go_ret
        exact ⟨rfl, HE.out⟩
theorem rwrite_any (b k x : Int) : Calls Tryd.prog 42 #[.pointer (some ⟨R.b, 0, none⟩), .int .i64 b, .int .i64 k, .int .u32 x] w fun e w' => e = .returned (.int .i64 (cwrite c ss b k x).2) ∧ Rac w' R c (cwrite c ss b k x).1 ∧ Kept R.own w w' := by
  unfold cwrite
  cases hn : (setAt c ss b).1.findIdx? (isOf b) with
  | none =>
    have HN := Lib.hid (rplace_no R c ss w hR hI b hn)
    have HR := Lib.hid hR
    clear hR hI hn
    go_enter Tryd.func42, Tryd.ntmps42
    go_wp2_with (go_at_call 56; ((with_reducible refine HN.out.mono ?_); rintro e w1 ⟨rfl, rfl⟩))
    go_ret
    exact ⟨rfl, HR.out, Kept.of (grown_refl _ _)⟩
  | some j =>
    have HN := Lib.hid (rplace_yes R c ss w hR hI b j hn)
    have HR := Lib.hid hR
    have hlt := idx_lt hn
    have c8 := hR.lines
    obtain ⟨l, hl⟩ : ∃ l, (setAt c ss b).1[j]? = some l := ⟨_, List.getElem?_eq_getElem hlt⟩
    have hgd : (setAt c ss b).1.getD j zl = l := by rw [List.getD_eq_getElem?_getD, hl]; rfl
    simp only [hgd]
    obtain ⟨i, hi⟩ : ∃ i, i = setOf c b * (setAt c ss b).1.length + j := ⟨_, rfl⟩
    have hfl := rowAll_get hR.wid (hR.at b) hl
    rw [← hR.wid _ (List.mem_of_getElem? (hR.at b)), ← hi] at hfl
    have hin : i < (rowAll ss).length := (List.getElem?_eq_some_iff.1 hfl).1
    have c1 := hR.row.at_ i l hfl 1 _ (ln1 l)
    have d0 : decide ((i : Int) < 0) = false := by simp
    rw [← hi] at HN
    by_cases h1 : 0 ≤ k ∧ k < 16
    · rw [if_pos h1]
      obtain ⟨m, rfl⟩ : ∃ m : Nat, k = (m : Int) := ⟨k.toNat, by omega⟩
      have hm : m < 16 := by omega
      have e1 : decide ((m : Int) < 0) = false := by simp
      have e2 : decide (15 < (m : Int)) = false := by simp; omega
      rw [Int.toNat_natCast]
      by_cases hs : l.s = 1
      · have es : (l.s == 1) = true := by simp [hs]
        rw [if_pos hs]
        generalize (rowAll ss).length = n at *
        clear hR hI hn hi hlt hl hgd hfl h1 hs
        go_enter Tryd.func42, Tryd.ntmps42
        go_wp2_with (go_at_call 56; ((with_reducible refine HN.out.mono ?_); rintro e w1 ⟨rfl, rfl⟩))
        go_ret
        exact ⟨rfl, HR.out, Kept.of (grown_refl _ _)⟩
      · have es : (l.s == 1) = false := by simp [hs]
        rw [if_neg hs]
        have f1 := (hR.row.there hin 1 (by omega)).2
        have f2 := (hR.row.there hin (2 + m) (by omega)).2
        obtain ⟨u, c2⟩ : ∃ u, w.cell? ⟨R.gl, i * 18 + (2 + m), none⟩ = some u := ⟨_, hR.row.at_ i l hfl (2 + m) _ (List.getElem?_eq_getElem (by rw [ln_len]; omega))⟩
        have hr1 := hR.row.cell i hin l (l.word m x) hfl (2 + m) (by omega) (U x) (ln_word l m x)
        have hl1 : ((rowAll ss).set i (l.word m x))[i]? = some (l.word m x) := List.getElem?_set_self hin
        have hr2 := hr1.cell i (by simpa using hin) (l.word m x) ((l.word m x).state 3) hl1 1 (by omega) (.int .u8 3) rfl
        rw [set_set_row] at hr2
        have c3 := hr1.at_ i _ hl1 1 _ (ln1 _)
        have hg12 : w.grownBy ((w.setCell ⟨R.gl, i * 18 + (2 + m), none⟩ (U x)).setCell ⟨R.gl, i * 18 + 1, none⟩ (.int .u8 3)) (some R.gl) := by
          have a1 := grown_setCell w R.gl (i * 18 + (2 + m)) (U x)
          have a2 := grown_setCell (w.setCell ⟨R.gl, i * 18 + (2 + m), none⟩ (U x)) R.gl (i * 18 + 1) (.int .u8 3)
          exact ⟨a2.os.trans a1.os, a2.tape.trans a1.tape, a2.output.trans a1.output, Nat.le_trans a1.size a2.size, fun q hq hne => (a2.block q (Nat.lt_of_lt_of_le hq a1.size) hne).trans (a1.block q hq hne)⟩
        have hR2 := hR.setLine (hR.at b) hlt ((l.word m x).state 3) hg12 (by rw [← hi]; exact hr2)
        have hsl : setOf c b < ss.length := (List.getElem?_eq_some_iff.1 (hR.at b)).1
        have hu := rused_any R c _ _ hR2 (setOf c b) j _ (List.getElem?_set_self hsl) (by simpa using hlt)
        simp only [set_set_row, List.length_set] at hu
        rw [← hi] at hu
        have HU := Lib.hid (hu.mono fun e w' h => (⟨h.1, h.2.1, (Kept.one hg12 (.inl rfl)).trans h.2.2⟩ : _ ∧ _ ∧ Kept R.own w w'))
        have c8b := (grown_setCell w R.gl (i * 18 + (2 + m)) (U x)).cell c8 (fun e => hR.ne.1 (Option.some.inj e).symm)
        rw [← Nat.add_assoc] at *
        unfold U at HU c3 c8b
        generalize (rowAll ss).length = n at *
        clear hR hI hn hi hlt hl hgd hfl h1 hs hr1 hr2 hl1 hg12 hR2 hsl hu
        go_enter Tryd.func42, Tryd.ntmps42
        go_wp2_with (first
          | (go_at_call 56; ((with_reducible refine HN.out.mono ?_); rintro e w1 ⟨rfl, rfl⟩))
          | (go_at_call 58; ((with_reducible refine HU.out.mono ?_); rintro e w2 ⟨rfl, h2⟩; have H2 := Lib.hid h2; clear h2)))
        go_ret
        exact ⟨rfl, H2.out⟩
    · rw [if_neg h1]
      generalize (rowAll ss).length = n at *
      by_cases h0 : k < 0
      · have e1 : decide (k < 0) = true := by simp; omega
        clear hR hI hn hi hlt hl hgd hfl h1 h0
        go_enter Tryd.func42, Tryd.ntmps42
        go_wp2_with (go_at_call 56; ((with_reducible refine HN.out.mono ?_); rintro e w1 ⟨rfl, rfl⟩))
        go_ret
        exact ⟨rfl, HR.out, Kept.of (grown_refl _ _)⟩
      · have e1 : decide (k < 0) = false := by simp; omega
        have e2 : decide (15 < k) = true := by simp; omega
        clear hR hI hn hi hlt hl hgd hfl h1 h0
        go_enter Tryd.func42, Tryd.ntmps42
        go_wp2_with (go_at_call 56; ((with_reducible refine HN.out.mono ?_); rintro e w1 ⟨rfl, rfl⟩))
        go_ret
        exact ⟨rfl, HR.out, Kept.of (grown_refl _ _)⟩
end
end Go.Proofs.YtjbapfjeildfoaaDoor.kk
