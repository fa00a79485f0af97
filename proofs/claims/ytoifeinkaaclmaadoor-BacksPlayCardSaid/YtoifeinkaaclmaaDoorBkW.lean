/-
  The laws' own check that a back is kept, and the law BacksKnown: both return true: the walks. Condition: the table of bounds lies in its variable as the program's text has it.
-/
import Derived.Test.YtoifeinkaaclmaaDoorBkE
namespace Go.Proofs.YtoifeinkaaclmaaDoor.bk
open Go Go.ChangeShapes Go.WideShapes Go.ChangeAt Go.RowKit
open Go.Proofs.YtoifeinkaaclmaaDoor.tt (Cfg Tab CfgAt cfg_at eql29k U zd row tyne add_lit lt_of range_grown grown_setCells grown_setRow grown_new grown_drewN below_of grown_alloc grown_refl grown_trans grown_drew Sl Pool Turn Next flat)
set_option linter.unusedVariables false
set_option maxRecDepth 1000000

def c8 : Cfg := ⟨2, 2, 2, 10, 1, 1, 1, 0⟩
def c0 : Cfg := ⟨0, 0, 0, 0, 0, 0, 0, 0⟩
theorem c8_may : c8.may := by decide +kernel
theorem c0_not : ¬ c0.may := by decide +kernel
theorem eight_any (w : World) : Calls Tryd.prog 9 #[] w fun e w' => e = .returned (.agg c8.cells) ∧ w.grownBy w' none := by
  go_enter Tryd.func9, Tryd.ntmps9
  go_wp2
  refine bodyPost_ret (v := .agg c8.cells) (results_cell_row rfl _ _ w.heap.size 27 c8.cells (0, 0) _ rfl (heap_alloc_new _ _) Tryd.underlying27 rfl (by kernel_rfl)) rfl ⟨rfl, grown_alloc (grown_refl _ _) _⟩
def d5 : List Int := 5 :: List.replicate 15 0
theorem d5_len : d5.length = 16 := rfl
def x5 : Bk := ⟨3, d5, true, rfl⟩
theorem row5 : row d5 = #[.int .u32 5, .int .u32 0, .int .u32 0, .int .u32 0, .int .u32 0, .int .u32 0, .int .u32 0, .int .u32 0, .int .u32 0, .int .u32 0, .int .u32 0, .int .u32 0, .int .u32 0, .int .u32 0, .int .u32 0, .int .u32 0] := rfl
theorem new8 (w : World) (hT : Tab w) : Calls Tryd.prog 8 #[.agg c8.cells] w fun e w' => ∃ t p, e = .returned (.tuple #[.pointer (some ⟨t, 0, none⟩), .int .i64 0]) ∧ Own w w' t p (.slice none 0 0) 8 1 [] := own_new c8 1 w hT c8_may rfl (Nat.le_refl _) (by omega)
section
variable {w w1 : World} {t p : Nat} {v : Value}
theorem put3 (h : Own w w1 t p v 8 1 []) : Calls Tryd.prog 11 #[.pointer (some ⟨t, 0, none⟩), .int .i64 3, .agg #[.int .u32 5, .int .u32 0, .int .u32 0, .int .u32 0, .int .u32 0, .int .u32 0, .int .u32 0, .int .u32 0, .int .u32 0, .int .u32 0, .int .u32 0, .int .u32 0, .int .u32 0, .int .u32 0, .int .u32 0, .int .u32 0]] w1 fun e w2 => e = .returned (.int .i64 0) ∧ ∃ v', Own w w2 t p v' 8 1 [x5] ∧ Turn w1 w2 p v v' := by
  refine (own_put h 3 d5 rfl).mono ?_
  have e1 : putE 8 1 [] 3 = 0 := by decide +kernel
  have e2 : puts 8 1 [] 3 d5 rfl = [x5] := by decide +kernel
  rw [e1, e2]; exact fun e w' h => h
theorem put3' (h : Own w w1 t p v 8 1 [x5]) : Calls Tryd.prog 11 #[.pointer (some ⟨t, 0, none⟩), .int .i64 3, .agg #[.int .u32 5, .int .u32 0, .int .u32 0, .int .u32 0, .int .u32 0, .int .u32 0, .int .u32 0, .int .u32 0, .int .u32 0, .int .u32 0, .int .u32 0, .int .u32 0, .int .u32 0, .int .u32 0, .int .u32 0, .int .u32 0]] w1 fun e w2 => e = .returned (.int .i64 8) ∧ ∃ v', Own w w2 t p v' 8 1 [x5] ∧ Turn w1 w2 p v v' := by
  refine (own_put h 3 d5 rfl).mono ?_
  have e1 : putE 8 1 [x5] 3 = 8 := by decide +kernel
  have e2 : puts 8 1 [x5] 3 d5 rfl = [x5] := by decide +kernel
  rw [e1, e2]; exact fun e w' h => h
theorem put4 (h : Own w w1 t p v 8 1 [x5]) : Calls Tryd.prog 11 #[.pointer (some ⟨t, 0, none⟩), .int .i64 4, .agg #[.int .u32 0, .int .u32 0, .int .u32 0, .int .u32 0, .int .u32 0, .int .u32 0, .int .u32 0, .int .u32 0, .int .u32 0, .int .u32 0, .int .u32 0, .int .u32 0, .int .u32 0, .int .u32 0, .int .u32 0, .int .u32 0]] w1 fun e w2 => e = .returned (.int .i64 7) ∧ ∃ v', Own w w2 t p v' 8 1 [x5] ∧ Turn w1 w2 p v v' := by
  refine (own_put h 4 zd rfl).mono ?_
  have e1 : putE 8 1 [x5] 4 = 7 := by decide +kernel
  have e2 : puts 8 1 [x5] 4 zd rfl = [x5] := by decide +kernel
  rw [e1, e2]; exact fun e w' h => h
theorem find3 (h : Own w w1 t p v 8 1 [x5]) : Calls Tryd.prog 13 #[.pointer (some ⟨t, 0, none⟩), .int .i64 3] w1 fun e w2 => e = .returned (.tuple #[.agg (row d5), .bool true, .bool true]) ∧ ∃ v', Own w w2 t p v' 8 1 [x5] ∧ Turn w1 w2 p v v' := by
  refine (own_find h 3).mono ?_
  have e1 : look [x5] 3 = some x5 := by decide +kernel
  rw [e1]; exact fun e w' h => h
theorem find3d (h : Own w w1 t p v 8 1 [dead x5]) : Calls Tryd.prog 13 #[.pointer (some ⟨t, 0, none⟩), .int .i64 3] w1 fun e w2 => e = .returned (.tuple #[.agg (row d5), .bool false, .bool true]) ∧ ∃ v', Own w w2 t p v' 8 1 [dead x5] ∧ Turn w1 w2 p v v' := by
  refine (own_find h 3).mono ?_
  have e1 : look [dead x5] 3 = some (dead x5) := by decide +kernel
  rw [e1]; exact fun e w' h => h
theorem kill3 (h : Own w w1 t p v 8 1 [x5]) : Calls Tryd.prog 12 #[.pointer (some ⟨t, 0, none⟩), .int .i64 3] w1 fun e w2 => e = .returned (.bool true) ∧ ∃ v', Own w w2 t p v' 8 1 [dead x5] ∧ Turn w1 w2 p v v' := by
  refine (own_kill h 3).mono ?_
  have e1 : fl (look [x5] 3) = true := by decide +kernel
  have e2 : kills [x5] 3 = [dead x5] := by decide +kernel
  rw [e1, e2]; exact fun e w' h => h
theorem kill3d (h : Own w w1 t p v 8 1 [dead x5]) : Calls Tryd.prog 12 #[.pointer (some ⟨t, 0, none⟩), .int .i64 3] w1 fun e w2 => e = .returned (.bool false) ∧ ∃ v', Own w w2 t p v' 8 1 [dead x5] ∧ Turn w1 w2 p v v' := by
  refine (own_kill h 3).mono ?_
  have e1 : fl (look [dead x5] 3) = false := by decide +kernel
  have e2 : kills [dead x5] 3 = [dead x5] := by decide +kernel
  rw [e1, e2]; exact fun e w' h => h
theorem drop3 (h : Own w w1 t p v 8 1 [dead x5]) : Calls Tryd.prog 14 #[.pointer (some ⟨t, 0, none⟩), .int .i64 3] w1 fun e w2 => e = .returned (.bool true) ∧ ∃ v', Own w w2 t p v' 8 1 [] ∧ Turn w1 w2 p v v' := by
  refine (own_drop h 3).mono ?_
  have e1 : (look [dead x5] 3).isSome = true := by decide +kernel
  have e2 : rem [dead x5] 3 = [] := by decide +kernel
  rw [e1, e2]; exact fun e w' h => h
end
theorem eq5 (w : World) : (Op.equalIn 10000 33 (.agg (row d5)) (.agg #[.int .u32 5, .int .u32 0, .int .u32 0, .int .u32 0, .int .u32 0, .int .u32 0, .int .u32 0, .int .u32 0, .int .u32 0, .int .u32 0, .int .u32 0, .int .u32 0, .int .u32 0, .int .u32 0, .int .u32 0, .int .u32 0])).run Tryd.prog w = .ok true w := eql29k d5 d5 rfl rfl w
set_option maxHeartbeats 2000000 in
theorem works_any (w : World) (hT : Tab w) : Calls Tryd.prog 10 #[] w fun e w' => e = .returned (.bool true) ∧ w.grownBy w' none := by
  have HT := Lib.hid hT
  have HE := Lib.hid (eight_any w)
  have HN : Hid (∀ w', w.grownBy w' none → _) := Lib.hid (fun w' h => new8 w' (hT.grown h))
  have hq := eq5
  clear hT
  go_enter Tryd.func10, Tryd.ntmps10
  go_wp2_with (first
    | (go_at_call 9; ((with_reducible refine HE.out.mono ?_); rintro e w0 ⟨rfl, hg0⟩; have HG0 := Lib.hid hg0; clear hg0))
    | (go_at_call 8; ((with_reducible refine (HN.out _ HG0.out).mono ?_); rintro e w1 ⟨t, p, rfl, ho1⟩; have H1 := Lib.hid (ho1.from HG0.out); clear ho1))
    | (go_at_call 11; ((with_reducible refine (put3 H1.out).mono ?_); rintro e w2 ⟨rfl, v2, ho2, _⟩; have H2 := Lib.hid ho2; clear ho2 H1))
    | (go_at_call 11; ((with_reducible refine (put3' H2.out).mono ?_); rintro e w3 ⟨rfl, v3, ho3, _⟩; have H3 := Lib.hid ho3; clear ho3 H2))
    | (go_at_call 11; ((with_reducible refine (put4 H3.out).mono ?_); rintro e w4 ⟨rfl, v4, ho4, _⟩; have H4 := Lib.hid ho4; clear ho4 H3))
    | (go_at_call 13; ((with_reducible refine (find3 H4.out).mono ?_); rintro e w5 ⟨rfl, v5, ho5, _⟩; have H5 := Lib.hid (ho5.grown (w2 := w5.alloc (.cells (row d5) 33)) (grown_alloc (grown_refl _ _) _)); have HR5 : Hid ((w5.alloc (.cells (row d5) 33)).rangeAt w5.heap.size 0 (d5.map U)) := Lib.hid (range_row (heap_alloc_new _ _)); clear ho5 H4))
    | ((with_reducible refine store_rown d5 rfl _ _ rfl _ _ ?_ ?_ ?_ ?_); (rfl); (rfl); (rfl))
    | ((with_reducible refine load_row d5 rfl _ w5.heap.size ?_ HR5.out ?_); (rfl))
    | (go_at_call 16; ((with_reducible refine (len_any _ _ _ _ _ _ _ H5.out.bk).mono ?_); rintro e w6 ⟨rfl, rfl⟩)))
  go_ret
  exact ⟨rfl, H5.out.old⟩
end Go.Proofs.YtoifeinkaaclmaaDoor.bk
