/-
  The laws StepGoes, StepOne answer true. The tables are as the program's text lays them (Tab).
-/
import Derived.Test.YtmfckkioccmblaaDoorStP
namespace Go.Proofs.YtmfckkioccmblaaDoor.sg
open Go Go.ChangeShapes Go.WideShapes Go.ChangeAt Go.RowKit Go.Proofs.YtmfckkioccmblaaDoor.cd
set_option linter.unusedVariables false
set_option maxRecDepth 1000000

theorem doE_cases (p : Int) (c : Cd) : doE p c = 2 ∨ doE p c = 4 ∨ (doE p c = 0 ∧ may c = true ∧ 0 ≤ p ∧ p ≤ 1024) := by
  unfold doE
  split
  · rename_i h
    split
    · exact .inr (.inl rfl)
    · exact .inr (.inr ⟨rfl, h⟩)
  · exact .inl rfl
theorem doR_len {x : List Int} (hx : x.length = 16) (p : Int) (c : Cd) : (doR x p c).length = 16 := by unfold doR; split <;> simp [res_len, hx, zero_size]
theorem goes_true (x : List Int) (hx : x.length = 16) (p : Int) (c : Cd) (w : World) (hT : Tab w) (h8 : c.op < 256) : Calls Tryd.prog 7 #[.agg (row x), .int .i64 p, .agg (ca c)] w fun e w' => e = .returned (.bool true) ∧ w.grownBy w' none := by
  have hD := fun w' (h : w.grownBy w' none) => do_any x hx p c w' (hT.grown h) h8
  have hr := doR_len hx p c
  rcases doE_cases p c with h | h | ⟨h, hm, hp0, hp1⟩
  · rw [h] at hD
    exact goes_bad2 x _ hx hr p _ c.op c.a c.b c.c c.n w hT hD
  · rw [h] at hD
    exact goes_bad4 x _ hx hr p _ c.op c.a c.b c.c c.n w hT hD
  · rw [h] at hD
    obtain ⟨n0, n1⟩ := may_n hm
    have ht : doT x p c = goes (x.set 0 0) p c := if_pos h
    have hR : doR x p c = res (x.set 0 0) c := if_pos h
    obtain ⟨op, a, b, c, n⟩ := c
    simp only at n0 n1
    unfold goes at ht
    simp only at ht
    by_cases h16 : op = 16
    · exact goes_jump x _ hx hr p _ op a b c n w hT hD h16 hp0 hp1 n0 n1 (ht.trans (if_pos (.inr h16)))
    · by_cases hb : 13 ≤ op ∧ op ≤ 15
      · have hR : doR x p ⟨op, a, b, c, n⟩ = x.set 0 0 := by
          rw [hR]; unfold res; simp only
          rw [if_neg (by omega), if_neg (by omega)]
        have ht' : doT x p ⟨op, a, b, c, n⟩ = p + 1 ∨ (doT x p ⟨op, a, b, c, n⟩ = p + 1 + n ∧ ¬ n = 0) := by
          by_cases hn : n = 0
          · left; rw [ht]; split <;> omega
          · rw [ht]; split
            · exact .inr ⟨rfl, hn⟩
            · exact .inl rfl
        rcases ht' with ht | ⟨ht, hn⟩
        · obtain h | h | h : op = 13 ∨ op = 14 ∨ op = 15 := by omega
          · exact goes_13b0 x _ hx hr p _ op a b c n w hT hD h hR hp0 hp1 n0 n1 ht
          · exact goes_14b0 x _ hx hr p _ op a b c n w hT hD h hR hp0 hp1 n0 n1 ht
          · exact goes_15b0 x _ hx hr p _ op a b c n w hT hD h hR hp0 hp1 n0 n1 ht
        · obtain h | h | h : op = 13 ∨ op = 14 ∨ op = 15 := by omega
          · exact goes_13b1 x _ hx hr p _ op a b c n w hT hD h hR hp0 hp1 n0 n1 ht hn
          · exact goes_14b1 x _ hx hr p _ op a b c n w hT hD h hR hp0 hp1 n0 n1 ht hn
          · exact goes_15b1 x _ hx hr p _ op a b c n w hT hD h hR hp0 hp1 n0 n1 ht hn
      · exact goes_next x _ hx hr p _ op a b c n w hT hD hb h16 hp0 hp1 (ht.trans (if_neg (fun h => h.elim (fun h => hb h.1) h16)))

/-- At most one register is another one, and it is A; the register 0 is 0. -/
theorem pt_other {x : List Int} (a v : Int) (k : Nat) (h : (pt x a v).getD k 0 ≠ x.getD k 0) : (k : Int) = a := by
  unfold pt at h
  split at h
  · rename_i h'
    by_cases hk : a.toNat = k
    · omega
    · exact (h (by rw [List.getD_eq_getElem?_getD, List.getElem?_set_ne hk, List.getD_eq_getElem?_getD])).elim
  · exact (h rfl).elim
theorem pt_0 {x : List Int} (a v : Int) : (pt x a v).getD 0 0 = x.getD 0 0 := by
  unfold pt
  split
  · rename_i h'
    rw [List.getD_eq_getElem?_getD, List.getElem?_set_ne (by omega), List.getD_eq_getElem?_getD]
  · rfl
theorem res_other {x : List Int} (c : Cd) (k : Nat) (h : (res x c).getD k 0 ≠ x.getD k 0) : (k : Int) = c.a := by
  unfold res at h
  split at h
  · exact pt_other _ _ _ h
  · split at h
    · exact pt_other _ _ _ h
    · exact (h rfl).elim
theorem res_0 {x : List Int} (c : Cd) : (res x c).getD 0 0 = x.getD 0 0 := by
  unfold res
  split
  · exact pt_0 _ _
  · split
    · exact pt_0 _ _
    · rfl
theorem set_0 {x : List Int} (hx : x.length = 16) : (x.set 0 0).getD 0 0 = 0 := by
  rw [List.getD_eq_getElem?_getD, List.getElem?_set_self (by omega)]; rfl

set_option maxHeartbeats 2000000 in
theorem one_bad (x : List Int) (hx : x.length = 16) (p E : Int) (op : Nat) (a b c n : Int) (w : World) (hT : Tab w) (hE : E = 2 ∨ E = 4) (hD : ∀ w', w.grownBy w' none → Calls Tryd.prog 8 #[.agg (row x), .int .i64 p, .agg #[.int .u8 (op : Int), .int .i64 a, .int .i64 b, .int .i64 c, .int .i64 n]] w' fun e w2 => e = .returned (.tuple #[.agg (row zero), .int .i64 0, .int .i64 E]) ∧ w'.grownBy w2 none) : Calls Tryd.prog 6 #[.agg (row x), .int .i64 p, .agg #[.int .u8 (op : Int), .int .i64 a, .int .i64 b, .int .i64 c, .int .i64 n]] w fun e w' => e = .returned (.bool true) ∧ w.grownBy w' none := by
  have HW : Hid (∀ w', w.grownBy w' none → _) := Lib.hid fun w' h => works_any w' (hT.grown h)
  have HX := Lib.hid hx
  have HD := Lib.hid hD
  obtain ⟨w2, hw2, hg2, hA2, hC2⟩ := boxes2 w x (op : Int) a b c n
  have HW2 := Lib.hid hw2
  have HG2 := Lib.hid hg2
  have HA2 := Lib.hid hA2
  have hne : (E != 0) = true := by rcases hE with rfl | rfl <;> rfl
  have HC2 : Hid (∀ w', w2.grownBy w' none → _) := Lib.hid fun w' h => cells5 (row_grown hC2 h)
  have HEQ : ∀ w, (binOp .eql 23 (.agg (row zero)) (.agg (row zero))).run Tryd.prog w = .ok (.bool true) w := fun w => by rw [eqRe w _ _ zero_size zero_size]; simp
  have hz : (#[.int .u32 0, .int .u32 0, .int .u32 0, .int .u32 0, .int .u32 0, .int .u32 0, .int .u32 0, .int .u32 0, .int .u32 0, .int .u32 0, .int .u32 0, .int .u32 0, .int .u32 0, .int .u32 0, .int .u32 0, .int .u32 0] : Array Value) = row zero := rfl
  obtain ⟨c0, c1, c2, c3, c4⟩ := HC2.out _ (grown_refl _ _)
  clear hT hw2 hg2 hA2 hC2 hx hD hE
  go_enter Tryd.func6, Tryd.ntmps6
  go_upto_region 1 with fail
  rw [HW2.out]
  go_wp2_with (first
    | ((with_reducible refine load_any x 3 w.heap.size ?_ ?_ HX.out ?_); ((rfl)); ((exact HA2.out)))
    | (go_at_call 8; ((with_reducible refine (HD.out _ HG2.out).mono ?_); rintro e w3 ⟨rfl, hg3⟩; have HZ3 := Lib.hid (grown_alloc hg3 (.cells (row zero) 23)); clear hg3))
    | ((with_reducible refine store_new zero 7 17 ?_ ?_ zero_size ?_); ((rfl)); ((rfl)))
    | ((with_reducible refine store_new' zero 7 17 ?_ ?_ zero_size ?_); ((rfl)); ((rfl)))
    | ((with_reducible refine load_any zero 7 w3.heap.size ?_ ?_ zero_size ?_); ((rfl)); ((exact heap_alloc_new _ _)))
    | (go_at_call 10; ((with_reducible refine (HW.out _ (grown_trans HG2.out HZ3.out)).mono ?_); rintro e w9 ⟨rfl, hg9⟩; have HG9 := Lib.hid (grown_trans (grown_trans HG2.out HZ3.out) hg9); clear hg9)))
  go_ret
  exact ⟨rfl, HG9.out⟩
end Go.Proofs.YtmfckkioccmblaaDoor.sg
