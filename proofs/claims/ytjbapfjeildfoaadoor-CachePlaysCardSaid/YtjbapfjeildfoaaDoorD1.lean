/-
  What the document's own Find, Use, Drop answer, and what its cache is behind them: contracts. Condition: that a line stands in its block's set alone.
-/
import Derived.Test.YtjbapfjeildfoaaDoorC23
namespace Go.Proofs.YtjbapfjeildfoaaDoor.kk
open Go Go.ChangeShapes Go.WideShapes Go.ChangeAt Go.RowKit Go.Shelf
set_option linter.unusedVariables false

/-- A line was written. -/
theorem Rac.setLine {R : RLoc} {c : Cfg} {ss : List St} {w w' : World} (h : Rac w R c ss) {s k : Nat} {p : St} (hp : ss[s]? = some p) (hk : k < p.1.length) (l : Ln) (hg : w.grownBy w' (some R.gl)) (hr : RowAt w' R.gl ((rowAll ss).set (s * p.1.length + k) l)) :
    Rac w' R c (ss.set s (p.1.set k l, p.2)) := by
  have hs : s < ss.length := (List.getElem?_eq_some_iff.1 hp).1
  have hwl := h.wid _ (List.mem_of_getElem? hp)
  obtain ⟨n1, n2, n3⟩ := h.ne
  have hb := hg.block R.b (h.lt (.inl rfl)) (fun e => n1 (Option.some.inj e).symm)
  have hm := hg.block R.gm (h.lt (.inr (.inr rfl))) (fun e => n3 (Option.some.inj e))
  have hset : rowAll (ss.set s (p.1.set k l, p.2)) = (rowAll ss).set (s * p.1.length + k) l := by
    rw [hwl]
    exact rowAll_set h.wid l hp (by omega)
  refine ⟨by rw [hset, List.length_set, List.length_set]; exact hb.trans h.blk, by rw [hset]; exact hr, ?_, fun j p' hj => ?_, by rw [List.length_set]; exact h.len, fun p' hp' => ?_, fun p' hp' => ?_, h.may⟩
  · obtain ⟨cur, hc⟩ := h.mb; exact ⟨cur, hm.trans hc⟩
  · rw [World.cell?_of_block (w := w) (a := ⟨R.gm, j, none⟩) hm]
    by_cases hjs : j = s
    · subst hjs
      rw [List.getElem?_set_self hs] at hj
      cases hj
      exact h.mem _ p hp
    · rw [List.getElem?_set_ne (fun e => hjs e.symm)] at hj
      exact h.mem j p' hj
  · rcases List.mem_or_eq_of_mem_set hp' with hp' | rfl
    · exact h.wid p' hp'
    · rw [List.length_set]; exact hwl
  · rcases List.mem_or_eq_of_mem_set hp' with hp' | rfl
    · exact h.mlt p' hp'
    · exact h.mlt p (List.mem_of_getElem? hp)
section
variable (R : RLoc) (c : Cfg) (ss : List St) (w : World) (hR : Rac w R c ss) (hI : Inv c ss) (b : Int)
include hR hI
theorem rplace_no (hn : (setAt c ss b).1.findIdx? (isOf b) = none) : Calls Tryd.prog 56 #[.pointer (some ⟨R.b, 0, none⟩), .int .i64 b] w fun e w' => e = .returned (.int .i64 (-1)) ∧ w = w' := by
  have h := rplace_any R c ss w hR b
  rw [ix, rowAll_place hI hR.wid hR.at b, hn] at h
  exact h
theorem rplace_yes (k : Nat) (hn : (setAt c ss b).1.findIdx? (isOf b) = some k) : Calls Tryd.prog 56 #[.pointer (some ⟨R.b, 0, none⟩), .int .i64 b] w fun e w' => e = .returned (.int .i64 ((setOf c b * (setAt c ss b).1.length + k : Nat) : Int)) ∧ w = w' := by
  have h := rplace_any R c ss w hR b
  rw [ix, rowAll_place hI hR.wid hR.at b, hn] at h
  rw [hR.wid _ (List.mem_of_getElem? (hR.at b))]
  exact h
theorem ruse_any (b : Int) : Calls Tryd.prog 40 #[.pointer (some ⟨R.b, 0, none⟩), .int .i64 b] w fun e w' => e = .returned (.bool (cuse c ss b).2) ∧ Rac w' R c (cuse c ss b).1 ∧ Kept R.own w w' := by
  unfold cuse
  cases hn : (setAt c ss b).1.findIdx? (isOf b) with
  | none =>
    have HN := Lib.hid (rplace_no R c ss w hR hI b hn)
    have HR := Lib.hid hR
    clear hR hI hn
    go_enter Tryd.func40, Tryd.ntmps40
    go_wp2_with (go_at_call 56; ((with_reducible refine HN.out.mono ?_); rintro e w1 ⟨rfl, rfl⟩))
    go_ret
    exact ⟨rfl, HR.out, Kept.of (grown_refl _ _)⟩
  | some k =>
    have HN := Lib.hid (rplace_yes R c ss w hR hI b k hn)
    have HU := Lib.hid (rused_any R c ss w hR (setOf c b) k _ (hR.at b) (idx_lt hn))
    obtain ⟨i, hi⟩ : ∃ i, i = setOf c b * (setAt c ss b).1.length + k := ⟨_, rfl⟩
    rw [← hi] at HN HU
    have d0 : decide ((i : Int) < 0) = false := by simp
    clear hR hI hn hi
    go_enter Tryd.func40, Tryd.ntmps40
    go_wp2_with (first
      | (go_at_call 56; ((with_reducible refine HN.out.mono ?_); rintro e w1 ⟨rfl, rfl⟩))
      | (go_at_call 58; ((with_reducible refine HU.out.mono ?_); rintro e w2 ⟨rfl, h2⟩; have H2 := Lib.hid h2; clear h2)))
    go_ret
    exact ⟨rfl, H2.out⟩
theorem rdrop_any (b : Int) : Calls Tryd.prog 39 #[.pointer (some ⟨R.b, 0, none⟩), .int .i64 b] w fun e w' => e = .returned (.bool (cdrop c ss b).2) ∧ Rac w' R c (cdrop c ss b).1 ∧ Kept R.own w w' := by
  unfold cdrop
  cases hn : (setAt c ss b).1.findIdx? (isOf b) with
  | none =>
    have HN := Lib.hid (rplace_no R c ss w hR hI b hn)
    have HR := Lib.hid hR
    clear hR hI hn
    go_enter Tryd.func39, Tryd.ntmps39
    go_wp2_with (go_at_call 56; ((with_reducible refine HN.out.mono ?_); rintro e w1 ⟨rfl, rfl⟩))
    go_ret
    exact ⟨rfl, HR.out, Kept.of (grown_refl _ _)⟩
  | some k =>
    have HN := Lib.hid (rplace_yes R c ss w hR hI b k hn)
    have hlt := idx_lt hn
    have c8 := hR.lines
    obtain ⟨i, hi⟩ : ∃ i, i = setOf c b * (setAt c ss b).1.length + k := ⟨_, rfl⟩
    have hin : i < (rowAll ss).length := by
      have := rowAll_get hR.wid (hR.at b) (List.getElem?_eq_getElem hlt)
      rw [hi, hR.wid _ (List.mem_of_getElem? (hR.at b))]
      exact (List.getElem?_eq_some_iff.1 this).1
    have HT := Lib.hid (hR.row.there hin)
    have HE : Hid (Rac (w.setCells R.gl (i * 18) (ln zl)) R c (ss.set (setOf c b) ((setAt c ss b).1.set k zl, (setAt c ss b).2)) ∧ Kept R.own w (w.setCells R.gl (i * 18) (ln zl))) := Lib.hid
      ⟨hR.setLine (hR.at b) hlt zl (grown_setCells _ _ _ _) (by rw [← hi]; exact hR.row.store i hin zl), Kept.one (grown_setCells _ _ _ _) (.inl rfl)⟩
    rw [← hi] at HN
    have d0 : decide ((i : Int) < 0) = false := by simp
    generalize (rowAll ss).length = n at *
    clear hR hI hn hi hlt
    go_enter Tryd.func39, Tryd.ntmps39
    go_wp2_with (first
      | (go_at_call 56; ((with_reducible refine HN.out.mono ?_); rintro e w1 ⟨rfl, rfl⟩))
      | ((with_reducible refine store_ln zl 17 16 R.gl (i * 18) ?_ ?_ HT.out ?_); ((go_num)); ((rfl))))
    go_ret
    exact ⟨rfl, HE.out⟩
end
end Go.Proofs.YtjbapfjeildfoaaDoor.kk
