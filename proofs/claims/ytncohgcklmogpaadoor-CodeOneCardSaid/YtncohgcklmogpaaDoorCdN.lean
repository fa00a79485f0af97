/-
  The laws CodePuts, CodeBack, CodeOne: each answers true. The tables are as the program's text lays them (Tab).
-/
import Derived.Test.YtncohgcklmogpaaDoorCdM
namespace Go.Proofs.YtncohgcklmogpaaDoor.cd
open Go Go.ChangeShapes Go.WideShapes Go.ChangeAt Go.RowKit
set_option linter.unusedVariables false
set_option maxRecDepth 1000000

theorem err_ok (b : Bool) : (err b == 0) = b := by cases b <;> rfl
set_option maxHeartbeats 2000000 in
theorem puts_true (c : Cd) (w : World) (hT : Tab w) (h8 : c.op < 256) : Calls Tryd.prog 4 #[.agg (ca c)] w fun e w' => e = .returned (.bool true) ∧ w.grownBy w' none := by
  have HW : Hid (∀ w', w.grownBy w' none → _) := Lib.hid fun w' h => works_any w' (hT.grown h)
  have HP : Hid (∀ w', w.grownBy w' none → _) := Lib.hid fun w' h => put_any c w' (hT.grown h) h8
  have HQ : Hid (∀ w, _) := Lib.hid fun w => rput_any c w h8
  have HM : Hid (∀ w', w.grownBy w' none → _) := Lib.hid fun w' h => may_any c w' (hT.grown h) h8
  have HN : Hid (∀ w, _) := Lib.hid fun w => rmay_any c w h8
  have HB : Hid (∀ w', (w.alloc (.cells (ca c) 27)).grownBy w' none → _) := Lib.hid fun w' h => cells5 (row_grown (heap_alloc_new w (.cells (ca c) 27)) h)
  have HG : Hid (w.grownBy (w.alloc (.cells (ca c) 27)) none) := Lib.hid (grown_alloc (grown_refl _ _) _)
  have he := err_ok (may c)
  generalize err (may c) = E at HP HQ HM he
  generalize putw c = v at HP HQ
  generalize may c = m at HN he
  clear hT h8
  obtain ⟨op, a, b, c, n⟩ := c
  unfold ca at *
  go_enter Tryd.func4, Tryd.ntmps4
  go_upto_region 3 with (first
    | (go_at_call 8; ((with_reducible refine (HP.out _ HG.out).mono ?_); rintro e w1 ⟨rfl, hg1⟩; have HG1 := Lib.hid (grown_trans HG.out hg1); obtain ⟨c0, c1, c2, c3, c4⟩ := HB.out _ hg1; have HZ1 := Lib.hid hg1; clear hg1))
    | (go_at_call 11; ((with_reducible refine (HQ.out _).mono ?_); rintro e w2 ⟨rfl, hg2⟩; have HG2 := Lib.hid (grown_trans HG1.out hg2); have HZ2 := Lib.hid (grown_trans HZ1.out hg2); clear hg2)))
  have HZ := Lib.hid (grown_drew HZ2.out)
  have HG3 := Lib.hid (grown_drew HG2.out)
  go_region_held3 (fun w' => (w'.cell? ⟨w.heap.size, 0, none⟩ = some (.int .u8 (op : Int)) ∧ w'.cell? ⟨w.heap.size, 1, none⟩ = some (.int .i64 a) ∧ w'.cell? ⟨w.heap.size, 2, none⟩ = some (.int .i64 b) ∧ w'.cell? ⟨w.heap.size, 3, none⟩ = some (.int .i64 c) ∧ w'.cell? ⟨w.heap.size, 4, none⟩ = some (.int .i64 n)))
    (first | (with_reducible exact HB.out _ HZ2.out) | (with_reducible exact HB.out _ HZ.out))
    (first
      | (go_at_call 12; ((with_reducible refine (HM.out _ HG3.out).mono ?_); rintro e w5 ⟨rfl, hg5⟩; have HG3 := Lib.hid (grown_trans HG3.out hg5); have HZ := Lib.hid (grown_trans HZ.out hg5); clear hg5))
      | (go_at_call 13; ((with_reducible refine (HN.out _).mono ?_); rintro e w5 ⟨rfl, hg5⟩; have HG3 := Lib.hid (grown_trans HG3.out hg5); have HZ := Lib.hid (grown_trans HZ.out hg5); clear hg5))
      | (go_at_call 10; ((with_reducible refine (HW.out _ HG3.out).mono ?_); rintro e w5 ⟨rfl, hg5⟩; have HG3 := Lib.hid (grown_trans HG3.out hg5); have HZ := Lib.hid (grown_trans HZ.out hg5); clear hg5)))
  go_wp2_with fail
  go_ret
  exact ⟨rfl, HG3.out⟩
/-- The word of an instruction that may be is a number below 2 to the 32nd; and Take tells the instruction of it. -/
theorem wd_nat {c : Cd} (h : may c = true) : ∃ x : Nat, wd c = (x : Int) ∧ x < 4294967296 ∧ tk x = c ∧ tok x = true := by
  obtain ⟨ho, h1, h2, h3, h4⟩ := may_parts h
  have hr := us_reg (fm_lt c.op)
  have hn := us_n (fm_lt c.op)
  have hq : 0 ≤ nn (fm c.op) c.n := by
    unfold nn
    generalize (if fm c.op = 2 then 16384 else 4194304 : Int) = D at hn ⊢
    split <;> omega
  have hp : 0 ≤ wd c := by
    unfold wd
    omega
  obtain ⟨x, hx⟩ : ∃ x : Nat, wd c = (x : Int) := ⟨(wd c).toNat, by omega⟩
  obtain ⟨e, hl⟩ := rc_wd c x h hx
  have hop : x / 67108864 = c.op := by have : (rc x).op = c.op := by rw [e]
                                       exact this
  have ht : tok x = true := by rw [tok_small (by omega), e]; exact decide_eq_true hx
  refine ⟨x, hx, hl, ?_, ht⟩
  unfold tk
  rw [if_pos ht, e]
theorem wd_inj {c d : Cd} (hc : may c = true) (hd : may d = true) : (wd c == wd d) = decide (c = d) := by
  obtain ⟨x, hx, _, e1, _⟩ := wd_nat hc
  obtain ⟨y, hy, _, e2, _⟩ := wd_nat hd
  by_cases h : c = d
  · subst h; simp
  · rw [decide_eq_false h]
    refine beq_eq_false_iff_ne.2 fun e => h ?_
    rw [hx, hy] at e
    have : x = y := by omega
    rw [← e1, ← e2, this]
theorem tk_may {x : Nat} (h : tok x = true) : may (tk x) = true ∧ wd (tk x) = (x : Int) ∧ (tk x).op < 22 := by
  have h' := of_decide_eq_true h
  unfold tk
  rw [if_pos h]
  exact ⟨rc_may x h'.1, h'.2, h'.1⟩
theorem tk_no {x : Nat} (h : tok x = false) : tk x = zc := by unfold tk; rw [h]; rfl
set_option maxHeartbeats 2000000 in
theorem back_true (c : Cd) (x : Nat) (w : World) (hT : Tab w) (h8 : c.op < 256) (hx : x < 4294967296) : Calls Tryd.prog 6 #[.agg (ca c), .int .u32 (x : Int)] w fun e w' => e = .returned (.bool true) ∧ w.grownBy w' none := by
  have HW : Hid (∀ w', w.grownBy w' none → _) := Lib.hid fun w' h => works_any w' (hT.grown h)
  have HG : Hid (w.grownBy (w.alloc (.cells (ca c) 27)) none) := Lib.hid (grown_alloc (grown_refl _ _) _)
  have HB : Hid (∀ w', (w.alloc (.cells (ca c) 27)).grownBy w' none → _) := Lib.hid fun w' h => cells5 (row_grown (heap_alloc_new w (.cells (ca c) 27)) h)
  have HP : Hid (∀ w', w.grownBy w' none → _) := Lib.hid fun w' h => put_any c w' (hT.grown h) h8
  have HK : Hid (∀ w', w.grownBy w' none → _) := Lib.hid fun w' h => take_any x w' (hT.grown h) hx
  -- the second half, whatever the first one left
  have HR : Hid (tok x = true → ∀ w', w.grownBy w' none → Calls Tryd.prog 8 #[.agg (ca (tk x))] w' fun e w'' => e = .returned (.tuple #[.int .u32 (x : Int), .int .i64 0]) ∧ w'.grownBy w'' none) := Lib.hid fun h w' hg => by
    obtain ⟨m1, m2, m3⟩ := tk_may h
    have := put_any (tk x) w' (hT.grown hg) (by omega)
    rw [show putw (tk x) = (x : Int) by unfold putw; rw [m1, if_pos rfl, m2], m1] at this
    exact this
  have HZ : Hid (tok x = false → ∀ w, (binOp .eql 27 (.agg (ca (tk x))) (.agg #[.int .u8 0, .int .i64 0, .int .i64 0, .int .i64 0, .int .i64 0])).run Tryd.prog w = .ok (.bool true) w) := Lib.hid fun h w => by
    rw [tk_no h]
    exact eqC w zc zc
  generalize tk x = k at HK HR HZ
  obtain ⟨op', a', b', c', n'⟩ := k
  cases hm : may c
  · rw [hm, show putw c = 0 by unfold putw; rw [hm]; rfl] at HP
    clear hT hx h8 hm
    obtain ⟨op, a, b, c, n⟩ := c
    unfold ca at *
    cases ht : tok x
    · have hz := HZ.out ht
      rw [ht] at HK
      clear HR HZ ht
      go_enter Tryd.func6, Tryd.ntmps6
      go_wp2_with (first
        | (go_at_call 8; ((with_reducible refine (HP.out _ HG.out).mono ?_); rintro e w1 ⟨rfl, hg1⟩; have HG1 := Lib.hid (grown_trans HG.out hg1); clear hg1))
        | (go_at_call 9; ((with_reducible refine (HK.out _ HG1.out).mono ?_); rintro e w3 ⟨rfl, hg3⟩; have HG3 := Lib.hid (grown_alloc (grown_trans HG1.out hg3) (.cells #[.int .u8 (op' : Int), .int .i64 a', .int .i64 b', .int .i64 c', .int .i64 n'] 27)); clear hg3))
        | (go_at_call 10; ((with_reducible refine (HW.out _ HG3.out).mono ?_); rintro e w5 ⟨rfl, hg5⟩; have HG5 := Lib.hid (grown_trans HG3.out hg5); clear hg5)))
      go_ret
      exact ⟨rfl, HG5.out⟩
    · have HR2 := Lib.hid (HR.out ht)
      rw [ht] at HK
      clear HR HZ ht
      go_enter Tryd.func6, Tryd.ntmps6
      go_wp2_with (first
        | (go_at_call 8; ((with_reducible refine (HP.out _ HG.out).mono ?_); rintro e w1 ⟨rfl, hg1⟩; have HG1 := Lib.hid (grown_trans HG.out hg1); clear hg1))
        | (go_at_call 9; ((with_reducible refine (HK.out _ HG1.out).mono ?_); rintro e w3 ⟨rfl, hg3⟩; have HG3 := Lib.hid (grown_alloc (grown_trans HG1.out hg3) (.cells #[.int .u8 (op' : Int), .int .i64 a', .int .i64 b', .int .i64 c', .int .i64 n'] 27)); clear hg3))
        | (go_at_call 8; ((with_reducible refine (HR2.out _ HG3.out).mono ?_); rintro e w4 ⟨rfl, hg4⟩; have HG4 := Lib.hid (grown_trans HG3.out hg4); clear hg4))
        | (go_at_call 10; ((with_reducible refine (HW.out _ HG4.out).mono ?_); rintro e w5 ⟨rfl, hg5⟩; have HG5 := Lib.hid (grown_trans HG4.out hg5); clear hg5)))
      go_ret
      exact ⟨rfl, HG5.out⟩
  · obtain ⟨y, hy, hyl, e1, e2⟩ := wd_nat hm
    have HL : Hid (∀ w', w.grownBy w' none → _) := Lib.hid fun w' h => take_any y w' (hT.grown h) hyl
    rw [e1, e2] at HL
    rw [hm, show putw c = (y : Int) by unfold putw; rw [hm, if_pos rfl, hy]] at HP
    have hne : ∀ w, (binOp .neq 27 (.agg (ca c)) (.agg (ca c))).run Tryd.prog w = .ok (.bool false) w := fun w => by rw [neC]; simp
    clear hT hx h8 hm hy hyl e1 e2
    obtain ⟨op, a, b, c, n⟩ := c
    unfold ca at *
    cases ht : tok x
    · have hz := HZ.out ht
      rw [ht] at HK
      clear HR HZ ht
      go_enter Tryd.func6, Tryd.ntmps6
      go_wp2_with (first
        | (go_at_call 8; ((with_reducible refine (HP.out _ HG.out).mono ?_); rintro e w1 ⟨rfl, hg1⟩; have HG1 := Lib.hid (grown_trans HG.out hg1); have HQ1 := Lib.hid hg1; clear hg1))
        | (go_at_call 9; ((with_reducible refine (HL.out _ HG1.out).mono ?_); rintro e w2 ⟨rfl, hg2⟩; have HG2 := Lib.hid (grown_alloc (grown_trans HG1.out hg2) (.cells #[.int .u8 (op : Int), .int .i64 a, .int .i64 b, .int .i64 c, .int .i64 n] 27)); obtain ⟨c0, c1, c2, c3, c4⟩ := HB.out _ (grown_trans HQ1.out hg2); have hlt := World.block_lt_of_cell? _ _ c0; simp only at hlt; clear hg2))
        | (go_at_call 9; ((with_reducible refine (HK.out _ HG2.out).mono ?_); rintro e w3 ⟨rfl, hg3⟩; have HG3 := Lib.hid (grown_alloc (grown_trans HG2.out hg3) (.cells #[.int .u8 (op' : Int), .int .i64 a', .int .i64 b', .int .i64 c', .int .i64 n'] 27)); clear hg3))
        | (go_at_call 10; ((with_reducible refine (HW.out _ HG3.out).mono ?_); rintro e w5 ⟨rfl, hg5⟩; have HG5 := Lib.hid (grown_trans HG3.out hg5); clear hg5)))
      go_ret
      exact ⟨rfl, HG5.out⟩
    · have HR2 := Lib.hid (HR.out ht)
      rw [ht] at HK
      clear HR HZ ht
      go_enter Tryd.func6, Tryd.ntmps6
      go_wp2_with (first
        | (go_at_call 8; ((with_reducible refine (HP.out _ HG.out).mono ?_); rintro e w1 ⟨rfl, hg1⟩; have HG1 := Lib.hid (grown_trans HG.out hg1); have HQ1 := Lib.hid hg1; clear hg1))
        | (go_at_call 9; ((with_reducible refine (HL.out _ HG1.out).mono ?_); rintro e w2 ⟨rfl, hg2⟩; have HG2 := Lib.hid (grown_alloc (grown_trans HG1.out hg2) (.cells #[.int .u8 (op : Int), .int .i64 a, .int .i64 b, .int .i64 c, .int .i64 n] 27)); obtain ⟨c0, c1, c2, c3, c4⟩ := HB.out _ (grown_trans HQ1.out hg2); have hlt := World.block_lt_of_cell? _ _ c0; simp only at hlt; clear hg2))
        | (go_at_call 9; ((with_reducible refine (HK.out _ HG2.out).mono ?_); rintro e w3 ⟨rfl, hg3⟩; have HG3 := Lib.hid (grown_alloc (grown_trans HG2.out hg3) (.cells #[.int .u8 (op' : Int), .int .i64 a', .int .i64 b', .int .i64 c', .int .i64 n'] 27)); clear hg3))
        | (go_at_call 8; ((with_reducible refine (HR2.out _ HG3.out).mono ?_); rintro e w4 ⟨rfl, hg4⟩; have HG4 := Lib.hid (grown_trans HG3.out hg4); clear hg4))
        | (go_at_call 10; ((with_reducible refine (HW.out _ HG4.out).mono ?_); rintro e w5 ⟨rfl, hg5⟩; have HG5 := Lib.hid (grown_trans HG4.out hg5); clear hg5)))
      go_ret
      exact ⟨rfl, HG5.out⟩
end Go.Proofs.YtncohgcklmogpaaDoor.cd
