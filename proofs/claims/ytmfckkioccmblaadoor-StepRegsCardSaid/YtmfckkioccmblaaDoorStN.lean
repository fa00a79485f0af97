/-
  What works of the laws answers; the laws StepRegs, StepDoes, StepKnown answer true. The tables are as the program's text lays them (Tab).
-/
import Derived.Test.YtmfckkioccmblaaDoorStM
namespace Go.Proofs.YtmfckkioccmblaaDoor.sg
open Go Go.ChangeShapes Go.WideShapes Go.ChangeAt Go.RowKit Go.Proofs.YtmfckkioccmblaaDoor.cd
set_option linter.unusedVariables false
set_option maxRecDepth 1000000

def r57 : List Int := [0, 5, 7, 0, 0, 0, 0, 0, 0, 0, 0, 0, 0, 0, 0, 0]
def r573 : List Int := [0, 5, 7, 4294967294, 0, 0, 0, 0, 0, 0, 0, 0, 0, 0, 0, 0]
theorem do_57 (w : World) (hT : Tab w) : Calls Tryd.prog 8 #[.agg (row r57), .int .i64 10, .agg #[.int .u8 2, .int .i64 3, .int .i64 1, .int .i64 2, .int .i64 0]] w fun e w' => e = .returned (.tuple #[.agg (row r573), .int .i64 11, .int .i64 0]) ∧ w.grownBy w' none := by
  have := do_any r57 rfl 10 ⟨2, 3, 1, 2, 0⟩ w hT (by decide)
  rw [show doR r57 10 ⟨2, 3, 1, 2, 0⟩ = r573 by decide +kernel, show doT r57 10 ⟨2, 3, 1, 2, 0⟩ = 11 by decide +kernel, show doE 10 ⟨2, 3, 1, 2, 0⟩ = 0 by decide +kernel] at this
  exact this
theorem works_any (w : World) (hT : Tab w) : Calls Tryd.prog 10 #[] w fun e w' => e = .returned (.bool true) ∧ w.grownBy w' none := by
  have HD := Lib.hid (do_57 w hT)
  have HE : ∀ w, (binOp .eql 23 (.agg (row r573)) (.agg (row r573))).run Tryd.prog w = .ok (.bool true) w := fun w => by rw [eqRe w r573 r573 rfl rfl]; rfl
  have h57 : (#[.int .u32 0, .int .u32 5, .int .u32 7, .int .u32 0, .int .u32 0, .int .u32 0, .int .u32 0, .int .u32 0, .int .u32 0, .int .u32 0, .int .u32 0, .int .u32 0, .int .u32 0, .int .u32 0, .int .u32 0, .int .u32 0] : Array Value) = row r57 := rfl
  have h573 : (row r57).setIfInBounds 3 (.int .u32 4294967294) = row r573 := rfl
  have hl : r573.length = 16 := rfl
  clear hT
  go_enter Tryd.func10, Tryd.ntmps10
  go_wp2_with (first
    | (go_at_call 8; ((with_reducible refine HD.out.mono ?_); rintro e w1 ⟨rfl, hg1⟩; have HG1 := Lib.hid hg1; clear hg1))
    | ((with_reducible refine store_new' r573 1 8 ?_ ?_ hl ?_); ((rfl)); ((rfl)))
    | ((with_reducible refine load_any r573 1 w1.heap.size ?_ ?_ hl ?_); ((rfl)); ((exact heap_alloc_new _ _))))
  go_ret
  exact ⟨rfl, grown_alloc HG1.out _⟩
/-- The document's examples. -/
def rK : List Int := [0, 5, 100, 0, 0, 0, 0, 0, 0, 0, 0, 0, 0, 0, 0, 0]
def rK0 : List Int := zero
theorem do_beq (w : World) (hT : Tab w) : Calls Tryd.prog 8 #[.agg (row rK), .int .i64 10, .agg #[.int .u8 13, .int .i64 1, .int .i64 1, .int .i64 0, .int .i64 (-3)]] w fun e w' => e = .returned (.tuple #[.agg (row rK), .int .i64 8, .int .i64 0]) ∧ w.grownBy w' none := by
  have := do_any rK rfl 10 ⟨13, 1, 1, 0, -3⟩ w hT (by decide)
  rw [show doR rK 10 ⟨13, 1, 1, 0, -3⟩ = rK by decide +kernel, show doT rK 10 ⟨13, 1, 1, 0, -3⟩ = 8 by decide +kernel, show doE 10 ⟨13, 1, 1, 0, -3⟩ = 0 by decide +kernel] at this
  exact this
theorem do_bne (w : World) (hT : Tab w) : Calls Tryd.prog 8 #[.agg (row rK), .int .i64 10, .agg #[.int .u8 14, .int .i64 1, .int .i64 1, .int .i64 0, .int .i64 (-3)]] w fun e w' => e = .returned (.tuple #[.agg (row rK), .int .i64 11, .int .i64 0]) ∧ w.grownBy w' none := by
  have := do_any rK rfl 10 ⟨14, 1, 1, 0, -3⟩ w hT (by decide)
  rw [show doR rK 10 ⟨14, 1, 1, 0, -3⟩ = rK by decide +kernel, show doT rK 10 ⟨14, 1, 1, 0, -3⟩ = 11 by decide +kernel, show doE 10 ⟨14, 1, 1, 0, -3⟩ = 0 by decide +kernel] at this
  exact this
theorem do_halt (w : World) (hT : Tab w) : Calls Tryd.prog 8 #[.agg (row rK), .int .i64 10, .agg #[.int .u8 0, .int .i64 0, .int .i64 0, .int .i64 0, .int .i64 0]] w fun e w' => e = .returned (.tuple #[.agg (row zero), .int .i64 0, .int .i64 4]) ∧ w.grownBy w' none := by
  have := do_any rK rfl 10 ⟨0, 0, 0, 0, 0⟩ w hT (by decide)
  rw [show doR rK 10 ⟨0, 0, 0, 0, 0⟩ = zero by decide +kernel, show doT rK 10 ⟨0, 0, 0, 0, 0⟩ = 0 by decide +kernel, show doE 10 ⟨0, 0, 0, 0, 0⟩ = 4 by decide +kernel] at this
  exact this
theorem addr_ex (w : World) (hT : Tab w) : Calls Tryd.prog 9 #[.agg (row rK), .agg #[.int .u8 9, .int .i64 1, .int .i64 2, .int .i64 0, .int .i64 (-4)]] w fun e w' => e = .returned (.tuple #[.int .u32 96, .int .i64 0]) ∧ w.grownBy w' none := by
  have := addr_any rK rfl ⟨9, 1, 2, 0, -4⟩ w hT (by decide)
  rw [show adr rK ⟨9, 1, 2, 0, -4⟩ = 96 by decide +kernel, show adrE ⟨9, 1, 2, 0, -4⟩ = 0 by decide +kernel] at this
  exact this
set_option maxHeartbeats 2000000 in
theorem known_true (w : World) (hT : Tab w) : Calls Tryd.prog 3 #[] w fun e w' => e = .returned (.bool true) ∧ w.grownBy w' none := by
  have HD1 : Hid (∀ w', w.grownBy w' none → _) := Lib.hid fun w' h => do_beq w' (hT.grown h)
  have HD2 : Hid (∀ w', w.grownBy w' none → _) := Lib.hid fun w' h => do_bne w' (hT.grown h)
  have HD3 : Hid (∀ w', w.grownBy w' none → _) := Lib.hid fun w' h => do_halt w' (hT.grown h)
  have HAD : Hid (∀ w', w.grownBy w' none → _) := Lib.hid fun w' h => addr_ex w' (hT.grown h)
  have HW : Hid (∀ w', w.grownBy w' none → _) := Lib.hid fun w' h => works_any w' (hT.grown h)
  have hK : (#[.int .u32 0, .int .u32 5, .int .u32 100, .int .u32 0, .int .u32 0, .int .u32 0, .int .u32 0, .int .u32 0, .int .u32 0, .int .u32 0, .int .u32 0, .int .u32 0, .int .u32 0, .int .u32 0, .int .u32 0, .int .u32 0] : Array Value) = row rK := rfl
  have hl : rK.length = 16 := rfl
  have HG0 : Hid (w.grownBy (w.alloc (.cells (row rK) 23)) none) := Lib.hid (grown_alloc (grown_refl _ _) _)
  have HR0 : Hid ((w.alloc (.cells (row rK) 23)).heap[w.heap.size]? = some (.cells (row rK) 23 (0, 0))) := Lib.hid (heap_alloc_new _ _)
  clear hT
  go_enter Tryd.func3, Tryd.ntmps3
  go_wp2_with (first
    | ((with_reducible refine store_new' rK 1 13 ?_ ?_ hl ?_); ((rfl)); ((rfl)))
    | ((with_reducible refine load_any rK 1 w.heap.size ?_ ?_ hl ?_); ((rfl)); (first | (exact HR0.out) | (exact HR1.out) | (exact HR2.out) | (exact HR3.out)))
    | (go_at_call 8; ((with_reducible refine (HD1.out _ HG0.out).mono ?_); rintro e w1 ⟨rfl, hg1⟩; have HG1 := Lib.hid (grown_alloc (grown_trans HG0.out hg1) (.cells (row rK) 23)); have HR1 := Lib.hid (row_grown HR0.out (grown_alloc hg1 (.cells (row rK) 23))); clear hg1))
    | ((with_reducible refine store_new' rK 2 18 ?_ ?_ hl ?_); ((rfl)); ((rfl)))
    | (go_at_call 8; ((with_reducible refine (HD2.out _ HG1.out).mono ?_); rintro e w2 ⟨rfl, hg2⟩; have HG2 := Lib.hid (grown_alloc (grown_trans HG1.out hg2) (.cells (row rK) 23)); have HR2 := Lib.hid (row_grown HR1.out (grown_alloc hg2 (.cells (row rK) 23))); clear hg2))
    | ((with_reducible refine store_new' rK 5 25 ?_ ?_ hl ?_); ((rfl)); ((rfl)))
    | (go_at_call 9; ((with_reducible refine (HAD.out _ HG2.out).mono ?_); rintro e w3 ⟨rfl, hg3⟩; have HG3 := Lib.hid (grown_trans HG2.out hg3); have HR3 := Lib.hid (row_grown HR2.out hg3); clear hg3))
    | (go_at_call 8; ((with_reducible refine (HD3.out _ HG3.out).mono ?_); rintro e w4 ⟨rfl, hg4⟩; have HG4 := Lib.hid (grown_alloc (grown_trans HG3.out hg4) (.cells (row zero) 23)); clear hg4))
    | ((with_reducible refine store_new' zero 10 38 ?_ ?_ zero_size ?_); ((rfl)); ((rfl)))
    | (go_at_call 10; ((with_reducible refine (HW.out _ HG4.out).mono ?_); rintro e w5 ⟨rfl, hg5⟩; have HG5 := Lib.hid (grown_trans HG4.out hg5); clear hg5)))
  go_ret
  exact ⟨rfl, HG5.out⟩
/-- The world behind the box of registers. -/
theorem box_one (w : World) (x : List Int) : ∃ w1, w.alloc (.cells (row x) 23) = w1 ∧ w.grownBy w1 none ∧ w1.heap[w.heap.size]? = some (.cells (row x) 23 (0, 0)) := ⟨_, rfl, grown_alloc (grown_refl _ _) _, heap_alloc_new _ _⟩
set_option maxHeartbeats 2000000 in
theorem does_true (x : List Int) (hx : x.length = 16) (p : Int) (c : Cd) (w : World) (hT : Tab w) (h8 : c.op < 256) : Calls Tryd.prog 4 #[.agg (row x), .int .i64 p, .agg (ca c)] w fun e w' => e = .returned (.bool true) ∧ w.grownBy w' none := by
  have hr : (doR x p c).length = 16 := by unfold doR; split <;> simp [res_len, hx, zero_size]
  have HE : ∀ w, (binOp .neq 23 (.agg (row (doR x p c))) (.agg (row (doR x p c)))).run Tryd.prog w = .ok (.bool false) w := fun w => by rw [neR w _ _ hr hr]; simp
  have HD : Hid (∀ w', w.grownBy w' none → _) := Lib.hid fun w' h => do_any x hx p c w' (hT.grown h) h8
  have HRD : Hid (∀ w', _) := Lib.hid fun w' => rdo_any x hx p c w' h8
  have HA : Hid (∀ w', w.grownBy w' none → _) := Lib.hid fun w' h => addr_any x hx c w' (hT.grown h) h8
  have HRA : Hid (∀ w', _) := Lib.hid fun w' => raddr_any x hx c w' h8
  have HW : Hid (∀ w', w.grownBy w' none → _) := Lib.hid fun w' h => works_any w' (hT.grown h)
  have HL := Lib.hid hr
  have HX := Lib.hid hx
  generalize doR x p c = R at HE HD HRD HL
  generalize doT x p c = T at HD HRD
  generalize doE p c = E at HD HRD
  generalize adr x c = A at HA HRA
  generalize adrE c = F at HA HRA
  obtain ⟨op, a, b, c, n⟩ := c
  unfold ca at *
  obtain ⟨w2, hw2, hg2, hA2, hC2⟩ := boxes2 w x (op : Int) a b c n
  have HW2 := Lib.hid hw2
  have HG2 := Lib.hid hg2
  have HA2 := Lib.hid hA2
  have HC2 : Hid (∀ w', w2.grownBy w' none → _) := Lib.hid fun w' h => cells5 (row_grown hC2 h)
  obtain ⟨c0, c1, c2, c3, c4⟩ := HC2.out _ (grown_refl _ _)
  clear hT h8 hw2 hg2 hA2 hC2 hx hr
  go_enter Tryd.func4, Tryd.ntmps4
  go_upto_region 1 with fail
  rw [HW2.out]
  go_upto_region 2 with (first
    | ((with_reducible refine load_any x 3 w.heap.size ?_ ?_ HX.out ?_); ((rfl)); ((exact HA2.out)))
    | (go_at_call 8; ((with_reducible refine (HD.out _ HG2.out).mono ?_); rintro e w3 ⟨rfl, hg3⟩; have HZ3 := Lib.hid (grown_alloc hg3 (.cells (row R) 23)); have HB3 := Lib.hid (heap_alloc_new w3 (.cells (row R) 23)); clear hg3))
    | ((with_reducible refine store_new' R 7 20 ?_ ?_ HL.out ?_); ((rfl)); ((rfl))))
  obtain ⟨b1, hb1⟩ : ∃ b1, b1 = w3.heap.size := ⟨_, rfl⟩
  rw [← hb1] at HB3
  generalize w3.alloc (.cells (row R) 23) = w4 at HZ3 HB3 ⊢
  try rw [← hb1]
  clear hb1 c0 c1 c2 c3 c4
  obtain ⟨c0, c1, c2, c3, c4⟩ := HC2.out _ HZ3.out
  go_upto_region 3 with (first
    | ((with_reducible refine load_any x 3 w.heap.size ?_ ?_ HX.out ?_); ((rfl)); ((exact row_grown HA2.out HZ3.out)))
    | (go_at_call 11; ((with_reducible refine (HRD.out _).mono ?_); rintro e w5 ⟨rfl, hg5⟩; have HZ5 := Lib.hid (grown_trans HZ3.out (grown_alloc hg5 (.cells (row R) 23))); have HB5 := Lib.hid (row_grown HB3.out (grown_alloc hg5 (.cells (row R) 23))); have HD5 := Lib.hid (heap_alloc_new w5 (.cells (row R) 23)); clear hg5))
    | ((with_reducible refine store_new' R 10 28 ?_ ?_ HL.out ?_); ((rfl)); ((rfl))))
  obtain ⟨b2, hb2⟩ : ∃ b2, b2 = w5.heap.size := ⟨_, rfl⟩
  rw [← hb2] at HD5
  generalize w5.alloc (.cells (row R) 23) = w6 at HZ5 HB5 HD5 ⊢
  try rw [← hb2]
  clear hb2 c0 c1 c2 c3 c4
  obtain ⟨c0, c1, c2, c3, c4⟩ := HC2.out _ HZ5.out
  go_wp2_with (first
    | ((with_reducible refine load_any R 7 b1 ?_ ?_ HL.out ?_); ((rfl)); ((exact HB5.out)))
    | ((with_reducible refine load_any R 10 b2 ?_ ?_ HL.out ?_); ((rfl)); ((exact HD5.out)))
    | ((with_reducible refine load_any x 3 w.heap.size ?_ ?_ HX.out ?_); ((rfl)); (first | (exact row_grown HA2.out HZ5.out) | (exact row_grown HA2.out HZ7.out)))
    | (go_at_call 9; ((with_reducible refine (HA.out _ (grown_trans HG2.out HZ5.out)).mono ?_); rintro e w7 ⟨rfl, hg7⟩; have HZ7 := Lib.hid (grown_trans HZ5.out hg7); (obtain ⟨c0, c1, c2, c3, c4⟩ := HC2.out _ HZ7.out); clear hg7))
    | (go_at_call 12; ((with_reducible refine (HRA.out _).mono ?_); rintro e w8 ⟨rfl, hg8⟩; have HG8 := Lib.hid (grown_trans HG2.out (grown_trans HZ7.out hg8)); clear hg8))
    | (go_at_call 10; ((with_reducible refine (HW.out _ HG8.out).mono ?_); rintro e w9 ⟨rfl, hg9⟩; have HG9 := Lib.hid (grown_trans HG8.out hg9); clear hg9)))
  go_ret
  exact ⟨rfl, HG9.out⟩
end Go.Proofs.YtmfckkioccmblaaDoor.sg
