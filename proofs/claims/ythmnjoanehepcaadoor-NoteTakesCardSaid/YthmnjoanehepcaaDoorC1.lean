/-
  asks, works, and that a note is taken as it was put, bytes are put as they were taken: laws. Condition: the table of kinds lies in its variable as the program's text has it.
-/
import Derived.Test.YthmnjoanehepcaaDoorB9
namespace Go.Proofs.YthmnjoanehepcaaDoor.nn
open Go Go.ChangeShapes Go.WideShapes Go.ChangeAt Go.RowKit
set_option linter.unusedVariables false

def ask : Nt := bare 1 2 (-1) 5 3 0 false false
theorem ask_ok : ask.ok := by decide
theorem zn_ok : ¬ zn.ok := by decide
theorem ask_fit : ask.Fit := ⟨by decide, by decide⟩
theorem putb_len (n : Nt) : (putb n).length = 78 := by rw [putb, List.length_append, headb_len, datb_len _ _ (by rw [n.hd]; omega)]
theorem ask_tk : tk (putb ask) = ask := by decide +kernel
theorem ret_ntp {fn : Func} {p : Tmp} (hres : fn.results = #[.cell p 31]) (w : World) (n : Nt) (B : Nat) (tmps : Array Value) (Q : Ending → World → Prop) (h4 : tmps.getD p undef = .pointer (some ⟨B, 0, none⟩))
    (hr : w.rangeAt B 0 (nt n)) (hQ : Q (.returned (.agg (na n))) w) : bodyPost Tryd.prog fn Q .ret { tmps := tmps, defers := [] } w := by
  refine bodyPost_ret (v := .agg (na n)) ?_ rfl hQ
  have := run_loadVar_mid (P := Tryd.prog) w B 0 31 (nt n) _ hr Tryd.underlying31 rfl (info31' n)
  have h4' : tmps[p]?.getD undef = .pointer (some ⟨B, 0, none⟩) := by simpa using h4
  simp [results, hres, h4', asAddr, this, na]
theorem asks_any (w : World) : Calls Tryd.prog 10 #[] w fun e w' => e = .returned (.agg (na ask)) ∧ w.grownBy w' none := by
  have HZ : Hid (na ask = _) := Lib.hid (bare_na 1 2 (-1) 5 3 0 false false)
  go_enter Tryd.func10, Tryd.ntmps10
  go_wp2_with ((with_reducible refine store_lit _ _ HZ.out _ 0 1 ?_ ?_ ?_ ?_); (rfl); (rfl); (rfl))
  exact ret_ntp rfl _ ask w.heap.size _ _ (by rfl) (range_of (heap_alloc_new w (.cells (na ask) 31))) ⟨rfl, grown_alloc (grown_refl _ _) _⟩
theorem put_any (n : Nt) (hF : n.Fit) (w : World) (hT : Tab w) : Calls Tryd.prog 9 #[.agg (na n)] w fun e w' => e = .returned (.tuple #[S (if n.ok then putb n else []), .int .i64 (yes n.ok)]) ∧ w.grownBy w' none := by
  by_cases h : n.ok
  · rw [if_pos h, yes_of h]; exact put_yes n w hT h hF
  · rw [if_neg h, yes_not h]; exact put_no n w hT h
theorem take_any (l : List UInt8) (hl : l.length ≤ 1000000) (w : World) (hT : Tab w) : Calls Tryd.prog 17 #[S l] w fun e w' => e = .returned (if l.length = 78 ∧ (tk l).ok then .tuple #[.agg (na (tk l)), .int .i64 0] else .tuple #[.agg (na zn), .int .i64 6]) ∧ w.grownBy w' none := by
  by_cases h : l.length = 78
  · have := take_78 l h w hT
    by_cases hk : (tk l).ok
    · rw [if_pos hk] at this; rw [if_pos ⟨h, hk⟩]; exact this
    · rw [if_neg hk] at this; rw [if_neg (fun h => hk h.2)]; exact this
  · rw [if_neg (fun h' => h h'.1)]; exact take_len l hl w h

set_option maxRecDepth 100000 in
set_option maxHeartbeats 1000000 in
theorem works_any (w : World) (hT : Tab w) : Calls Tryd.prog 11 #[] w fun e w' => e = .returned (.bool true) ∧ w.grownBy w' none := by
  have HT := Lib.hid (fun w' (h : w.grownBy w' none) => hT.grown h)
  have HA := Lib.hid asks_any
  have HP : Hid (∀ w', Tab w' → _) := Lib.hid fun w' h => put_yes ask w' h ask_ok ask_fit
  have HTK : Hid (∀ w', Tab w' → _) := Lib.hid fun w' h => take_78 (putb ask) (putb_len ask) w' h
  rw [ask_tk] at HTK
  have HM : Hid (∀ w', Tab w' → _) := Lib.hid fun w' h => may_any zn w' h
  rw [yes_not zn_ok] at HM
  have hsz : (ByteArray.mk (putb ask).toArray).size = 78 := by show (putb ask).toArray.size = _; simp [putb_len]
  have hif : (if ask.ok then Value.tuple #[.agg (na ask), .int .i64 0] else .tuple #[.agg (na zn), .int .i64 6]) = .tuple #[.agg (na ask), .int .i64 0] := if_pos ask_ok
  rw [hif] at HTK
  clear hT hif
  generalize putb ask = l at *
  go_enter Tryd.func11, Tryd.ntmps11
  go_wp2_with (first
    | (go_at_call 10; ((with_reducible refine (HA.out _).mono ?_); rintro e w1 ⟨rfl, hg1⟩; have H1 := Lib.hid hg1; clear hg1))
    | (go_at_call 9; ((with_reducible refine (HP.out _ (HT.out _ H1.out)).mono ?_); rintro e w2 ⟨rfl, hg2⟩; have H2 := Lib.hid (grown_trans H1.out hg2); clear hg2 H1))
    | (go_at_call 17; ((with_reducible refine (HTK.out _ (HT.out _ H2.out)).mono ?_); rintro e w3 ⟨rfl, hg3⟩; have H3 := Lib.hid (grown_trans H2.out hg3); clear hg3 H2))
    | ((with_reducible refine store_new ask _ 3 13 ?_ ?_ ?_ ?_); (rfl); (rfl); (rfl)))
  have hr : (w3.alloc (.cells (na ask) 31)).rangeAt w3.heap.size 0 (nt ask) := range_of (heap_alloc_new _ _)
  obtain ⟨wb, hwb⟩ : ∃ wb, w3.alloc (.cells (na ask) 31) = wb := ⟨_, rfl⟩
  have HG0 : Hid (wb.grownBy wb none) := Lib.hid (grown_refl _ _)
  have HWB : Hid (w.grownBy wb none) := Lib.hid (hwb ▸ grown_trans H3.out (grown_alloc (grown_refl _ _) _))
  rw [hwb] at hr ⊢
  obtain ⟨t, mm, HTT, hagg, hsize, hld⟩ := named
  have HL : Hid (∀ w', wb.grownBy w' none → (loadCellsFrom ⟨w3.heap.size, 0, none⟩ 0 mm #[]).run Tryd.prog w' = .ok (na ask) w') := Lib.hid fun w' h => hld _ _ _ (range_grown hr h (by simp))
  have hq : ∀ w, (binOp .eql 31 (.agg (na ask)) (.agg (na ask))).run Tryd.prog w = .ok (.bool true) w := fun w => by rw [q31e, decide_eq_true rfl]
  have hz : na zn = _ := bare_na 0 0 0 0 0 0 false false
  rw [hz] at HM
  clear hld hwb hr hz
  rw [HTT.out]
  first
  | (go_region_held3 (fun w' => (loadCellsFrom ⟨w3.heap.size, 0, none⟩ 0 mm #[]).run Tryd.prog w' = .ok (na ask) w' ∧ wb.grownBy w' none) (first | exact ⟨HL.out _ HG0.out, HG0.out⟩ | exact ⟨HL.out _ (grown_drew HG0.out), grown_drew HG0.out⟩ | assumption | exact keep2 HL (by assumption) (by assumption) | exact keep2 HL (by assumption) (grown_drew (grown_refl _ _))) (first
      | (go_at_call 10; ((refine (HA.out _).mono ?_); rintro e w9 ⟨rfl, hg9⟩))
      | (go_at_call 14; ((refine (HM.out _ (HT.out _ (grown_trans HWB.out (And.right (by assumption : _ ∧ wb.grownBy _ none))))).mono ?_); rintro e w10 ⟨rfl, hg10⟩))))
  | fail
  all_goals (go_wp2; go_ret; exact ⟨rfl, grown_trans HWB.out (And.right (by assumption))⟩)
end Go.Proofs.YthmnjoanehepcaaDoor.nn
