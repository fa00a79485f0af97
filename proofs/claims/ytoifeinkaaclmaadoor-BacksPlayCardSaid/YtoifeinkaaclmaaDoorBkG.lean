/-
  The law BacksKnown returns true: the walk. Condition: the table of bounds lies in its variable as the program's text has it.
-/
import Derived.Test.YtoifeinkaaclmaaDoorBkW
namespace Go.Proofs.YtoifeinkaaclmaaDoor.bk
open Go Go.ChangeShapes Go.WideShapes Go.ChangeAt Go.RowKit
open Go.Proofs.YtoifeinkaaclmaaDoor.tt (Cfg Tab CfgAt cfg_at eql29k U zd row tyne add_lit lt_of range_grown grown_setCells grown_setRow grown_new grown_drewN below_of grown_alloc grown_refl grown_trans grown_drew Sl Pool Turn Next flat)
set_option linter.unusedVariables false
set_option maxRecDepth 1000000

section
variable {w : World} {ops : Array Oper} {rest : List Oper} {a : Act} {Q : Exit → Act → World → Prop} {dst : Option Tmp} {ty : TypeId} {pos : String} {after : Array Edge}
theorem wpList_on {P : Program} {o : Oper} (hw : Region.wanted o (yielded ops a.tmps) = true) (h : ∀ K : Act → World → Prop, (∀ a w, wpList P ops Q rest a w → K a w) → o.wp P a w K Q) : wpList P ops Q (o :: rest) a w :=
  wpList_step fun K hK => by simp only [hw, if_true]; exact h K hK
/-- A block out of a variable, behind a short cut. -/
theorem load_rowG (d : List Int) (hd : d.length = 16) (x : Tmp) (g : Nat) (gd : Nat × Bool) (hw : Region.wanted ⟨dst, .load 33 (.tmp x), ty, pos, after, some gd⟩ (yielded ops a.tmps) = true) (hx : a.eval (.tmp x) = .pointer (some ⟨g, 0, none⟩)) (hg : w.rangeAt g 0 (d.map U))
    (h : wpList Tryd.prog ops Q rest (a.put dst (.agg (row d))) w) : wpList Tryd.prog ops Q (⟨dst, .load 33 (.tmp x), ty, pos, after, some gd⟩ :: rest) a w := by
  refine wpList_on hw fun K hK => ?_
  have hrun := run_loadAt_mid (P := Tryd.prog) w g 0 33 (d.map U) _ hg Tryd.underlying33 rfl (infoR d hd)
  unfold Oper.wp execOp
  simp only [hx, Sem.run_bind, hrun, Result.andThen_ok, Sem.run_pure]
  exact hK _ _ h
end
theorem room1 {w w1 : World} {t p : Nat} {v : Value} (h : Own w w1 t p v 8 1 []) : Calls Tryd.prog 15 #[.pointer (some ⟨t, 0, none⟩)] w1 fun e w2 => e = .returned (.int .i64 1) ∧ ∃ k, w2 = w1.drewN k := room_any t p v 8 1 [] w1 h.bk
theorem new0 (w : World) (hT : Tab w) : Calls Tryd.prog 8 #[.agg #[.int .i64 0, .int .i64 0, .int .i64 0, .int .i64 0, .int .i64 0, .int .i64 0, .int .i64 0, .int .i64 0]] w fun e w' => e = .returned (.tuple #[.pointer none, .int .i64 2]) ∧ w.grownBy w' none := new_no c0 w hT c0_not
set_option maxHeartbeats 4000000 in
theorem known_true (w : World) (hT : Tab w) : Calls Tryd.prog 3 #[] w fun e w' => e = .returned (.bool true) ∧ w.grownBy w' none := by
  have HT := Lib.hid hT
  have HE := Lib.hid (eight_any w)
  have HN : Hid (∀ w', w.grownBy w' none → _) := Lib.hid (fun w' h => new8 w' (hT.grown h))
  have HW : Hid (∀ w', w.grownBy w' none → _) := Lib.hid (fun w' h => works_any w' (hT.grown h))
  have HZ : Hid (∀ w', w.grownBy w' none → _) := Lib.hid (fun w' h => new0 w' (hT.grown h))
  have hq := eq5
  clear hT
  go_enter Tryd.func3, Tryd.ntmps3
  go_wp2_with (first
    | (go_at_call 9; ((with_reducible refine HE.out.mono ?_); rintro e w0 ⟨rfl, hg0⟩; have HG0 := Lib.hid hg0; clear hg0))
    | (go_at_call 8; ((with_reducible refine (HN.out _ HG0.out).mono ?_); rintro e w1 ⟨t, p, rfl, ho1⟩; have H1 := Lib.hid (ho1.from HG0.out); clear ho1))
    | (go_at_call 10; ((with_reducible refine (HW.out _ H1.out.old).mono ?_); rintro e wa ⟨rfl, hga⟩; have Ha := Lib.hid (H1.out.grown hga); clear hga H1))
    | (go_at_call 11; ((with_reducible refine (put3 Ha.out).mono ?_); rintro e w2 ⟨rfl, v2, ho2, _⟩; have H2 := Lib.hid ho2; clear ho2 Ha))
    | (go_at_call 12; ((with_reducible refine (kill3 H2.out).mono ?_); rintro e w3 ⟨rfl, v3, ho3, _⟩; have H3 := Lib.hid ho3; clear ho3 H2))
    | (go_at_call 12; ((with_reducible refine (kill3d H3.out).mono ?_); rintro e w4 ⟨rfl, v4, ho4, _⟩; have H4 := Lib.hid ho4; clear ho4 H3))
    | (go_at_call 13; ((with_reducible refine (find3d H4.out).mono ?_); rintro e w5 ⟨rfl, v5, ho5, _⟩; have H5 := Lib.hid (ho5.grown (w2 := w5.alloc (.cells (row d5) 33)) (grown_alloc (grown_refl _ _) _)); have HB5 : Hid ((w5.alloc (.cells (row d5) 33)).heap[w5.heap.size]? = some (.cells (row d5) 33 (0, 0))) := Lib.hid (heap_alloc_new _ _); clear ho5 H4))
    | ((with_reducible refine store_rown d5 rfl _ _ rfl _ _ ?_ ?_ ?_ ?_); (rfl); (rfl); (rfl))
    | ((with_reducible refine load_row d5 rfl _ w5.heap.size ?_ (range_row HB5.out) ?_); (rfl))
    | (go_at_call 14; ((with_reducible refine (drop3 H5.out).mono ?_); rintro e w6 ⟨rfl, v6, ho6, hT6⟩; have H6 := Lib.hid ho6; have HB6 : Hid (w6.heap[w5.heap.size]? = some (.cells (row d5) 33 (0, 0))) := Lib.hid ((hT6.block _ (lt_of HB5.out) (tyne HB5.out H5.out.bk.pool.blk (by decide)) (fun e => by obtain ⟨cur, hc⟩ := H5.out.bk.pool.sl.type _ e.symm; exact tyne HB5.out hc (by decide) rfl)).trans HB5.out); clear ho6 hT6 H5 HB5))
    | (go_at_call 15; ((with_reducible refine (room1 H6.out).mono ?_); rintro e w7 ⟨rfl, k7, hw7⟩; have hg7 : w6.grownBy w7 none := (by rw [hw7]; exact grown_drewN (grown_refl _ _) _); have H7 := Lib.hid (grown_trans H6.out.old hg7); have HB7 := Lib.hid ((hg7.block _ (lt_of HB6.out) (by simp)).trans HB6.out); clear hw7 hg7 H6 HB6))
    | (go_at_call 13; ((with_reducible refine (find_nil 0 _).mono ?_); rintro e w8 ⟨rfl, hg8⟩; have H8 := Lib.hid (grown_trans H7.out hg8); have HB8 := Lib.hid ((hg8.block _ (lt_of HB7.out) (by simp)).trans HB7.out); clear hg8 H7 HB7))
    | (go_at_call 8; ((with_reducible refine (HZ.out _ H8.out).mono ?_); rintro e w9 ⟨rfl, hg9⟩; have H9 := Lib.hid (grown_trans H8.out hg9); have HB9 := Lib.hid ((hg9.block _ (lt_of HB8.out) (by simp)).trans HB8.out); clear hg9 H8 HB8))
    | ((with_reducible refine load_rowG d5 rfl _ w5.heap.size _ ?_ ?_ (range_row HB9.out) ?_); (rfl); (rfl))
    | (go_at_call 11; ((with_reducible refine (put_nil 0 d5 _).mono ?_); rintro e wb ⟨rfl, hgb⟩; have Hb := Lib.hid (grown_trans H9.out hgb); clear hgb H9))
    | (go_at_call 12; ((with_reducible refine (kill_nil 0 _).mono ?_); rintro e wc ⟨rfl, hgc⟩; have Hc := Lib.hid (grown_trans Hb.out hgc); clear hgc Hb))
    | (go_at_call 14; ((with_reducible refine (drop_nil 0 _).mono ?_); rintro e wd ⟨rfl, hgd⟩; have Hd := Lib.hid (grown_trans Hc.out hgd); clear hgd Hc))
    | (go_at_call 16; ((with_reducible refine (len_nil _).mono ?_); rintro e we ⟨rfl, rfl⟩))
    | (go_at_call 15; ((with_reducible refine (room_nil _).mono ?_); rintro e we ⟨rfl, rfl⟩))
    | (go_at_call 17; ((with_reducible refine (copy_nil _).mono ?_); rintro e we ⟨rfl, rfl⟩)))
  go_ret
  exact ⟨rfl, Hd.out⟩
end Go.Proofs.YtoifeinkaaclmaaDoor.bk
