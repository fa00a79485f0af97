/-
  Whether an entry may be, whether an ask may, who is known: what package entry and the document's own answer: contracts. No condition but the bounds that each theorem names.
-/
import Derived.Test.YtplebmafdfciaaaDoorEnA
namespace Go.Proofs.YtplebmafdfciaaaDoor.en
open Go Go.ChangeShapes Go.WideShapes Go.ChangeAt Go.RowKit
open Go.Proofs.YtplebmafdfciaaaDoor.mm (wi wo ha pop wi_lt wo_lt with_any rhas_any ret_i64 ret_bool ret_u32)
set_option linter.unusedVariables false

theorem next2 {w w' : World} {b : Nat} {x y : Value} (h : w.cell? ⟨b, 0, none⟩ = some x ∧ w.cell? ⟨b, 1, none⟩ = some y) (hg : w.grownBy w' none) : w'.cell? ⟨b, 0, none⟩ = some x ∧ w'.cell? ⟨b, 1, none⟩ = some y :=
  ⟨hg.cell h.1 (by simp), hg.cell h.2 (by simp)⟩
theorem new2 (w : World) (x y : Value) (t : TypeId) : (w.alloc (.cells #[x, y] t)).cell? ⟨w.heap.size, 0, none⟩ = some x ∧ (w.alloc (.cells #[x, y] t)).cell? ⟨w.heap.size, 1, none⟩ = some y :=
  ⟨cell_of_row _ _ 0 _ _ _ (heap_alloc_new _ _), cell_of_row _ _ 1 _ _ _ (heap_alloc_new _ _)⟩
theorem low16 (s : Nat) (hs : s < 4294967296) : bits .and .u32 (s : Int) 65535 = ((s % 65536 : Nat) : Int) := by
  have := u32_and_nat s 65535 hs (by omega)
  rw [show (65535 : Int) = ((65535 : Nat) : Int) from rfl, this, show (65535 : Nat) = 2 ^ 16 - 1 by decide, Nat.and_two_pow_sub_one_eq_mod]
theorem may_yes {o : Int} {s : Nat} (h : -1 ≤ o ∧ o ≤ 15 ∧ s < 65536 ∧ (o ≠ -1 → s = 0)) : En.may ⟨o, s⟩ = true := decide_eq_true h
theorem may_no {o : Int} {s : Nat} (h : ¬ (-1 ≤ o ∧ o ≤ 15 ∧ s < 65536 ∧ (o ≠ -1 → s = 0))) : En.may ⟨o, s⟩ = false := decide_eq_false h
def err (b : Bool) : Int := if b then 0 else 2

set_option maxHeartbeats 1000000 in
set_option maxRecDepth 1000000 in
theorem may_a (s : Nat) (w : World) (hs : s < 65536) : Calls Tryd.prog 13 #[.agg #[.int .i64 (-1), .int .u32 (s : Int)]] w fun e w' => e = .returned (.int .i64 0) ∧ w.grownBy w' none := by
  have HG0 : Hid (w.grownBy (w.alloc (.cells #[.int .i64 (-1), .int .u32 (s : Int)] 25)) none) := Lib.hid (grown_alloc (grown_refl _ _) _)
  have HC := Lib.hid (new2 w (.int .i64 (-1)) (.int .u32 (s : Int)) 25)
  have hb := low16 s (by omega)
  rw [Nat.mod_eq_of_lt hs] at hb
  have HS : Hid (∀ w, _) := Lib.hid fun w => shared_any (s : Int) w
  have he := eqE
  go_enter Tryd.func13, Tryd.ntmps13
  go_wp2_with fail
  refine wp_region_held_drew (S := fun w' => (w'.cell? ⟨w.heap.size, 0, none⟩ = some (.int .i64 (-1)) ∧ w'.cell? ⟨w.heap.size, 1, none⟩ = some (.int .u32 (s : Int))) ∧ w.grownBy w' none) (by kernel_rfl) ⟨next2 HC.out (grown_drew (grown_refl _ _)), grown_drew HG0.out⟩ (fun hHeld => ?_)
  generalize (w.alloc _).drew = wd at hHeld ⊢
  refine wpAnyH_take (i := 0) (oi := ⟨some 3, Op.load 25 (Operand.tmp 1), _, _, _, _⟩) (v := ?v1) rfl (by kernel_rfl) (by kernel_rfl) (by kernel_rfl) (fun _ _ _ h => h) (Or.inl ⟨by rfl, ?hy1⟩) (by assumption) ?rest1
  case hy1 => ((intro w0 hSw; obtain ⟨⟨hs1, hs2⟩, hs3⟩ := hSw; go_simp); try (with_reducible rfl))
  try simp only [Act.put, List.setIfInBounds_toArray, List.set_cons_zero, List.set_cons_succ]
  refine wpAnyH_take (i := 1) (oi := ⟨some 4, Op.fieldAddr 25 (Operand.tmp 1) 1, _, _, _, _⟩) (v := ?v2) rfl (by kernel_rfl) (by kernel_rfl) (by kernel_rfl) (fun _ _ _ h => h) (Or.inl ⟨by rfl, ?hy2⟩) (by assumption) ?rest2
  case hy2 => ((intro w0 hSw; obtain ⟨⟨hs1, hs2⟩, hs3⟩ := hSw; go_simp); try (with_reducible rfl))
  try simp only [Act.put, List.setIfInBounds_toArray, List.set_cons_zero, List.set_cons_succ]
  refine wpAnyH_take (i := 2) (oi := ⟨some 5, Op.load 23 (Operand.tmp 4), _, _, _, _⟩) (v := ?v3) rfl (by kernel_rfl) (by kernel_rfl) (by kernel_rfl) (fun _ _ _ h => h) (Or.inl ⟨by rfl, ?hy3⟩) (by assumption) ?rest3
  case hy3 => ((intro w0 hSw; obtain ⟨⟨hs1, hs2⟩, hs3⟩ := hSw; go_simp); try (with_reducible rfl))
  try simp only [Act.put, List.setIfInBounds_toArray, List.set_cons_zero, List.set_cons_succ]
  refine wpAnyH_take (i := 3) (oi := ⟨some 6, Op.binOp BinOp.and 23 (Operand.tmp 5) (Operand.const (Value.int IntKind.u32 65535)) _, _, _, _, _⟩) (v := ?v4) rfl (by kernel_rfl) (by kernel_rfl) (by kernel_rfl) (fun _ _ _ h => h) (Or.inl ⟨by rfl, ?hy4⟩) (by assumption) ?rest4
  case hy4 => ((intro w0 hSw; obtain ⟨⟨hs1, hs2⟩, hs3⟩ := hSw; go_simp); try (with_reducible rfl))
  try simp only [Act.put, List.setIfInBounds_toArray, List.set_cons_zero, List.set_cons_succ]
  refine wpAnyH_ready (rs := [4]) (by kernel_rfl) (by simp) ?_
  refine AllReadyH.cons (o := ⟨some 7, Op.call { callee := Callee.value (Operand.func 25), args := #[(Operand.tmp 6)], argTypes := #[23] }, _, _, _, _⟩) rfl (fun K hK => ?_) AllReadyH.nil
  go_simp
  (with_reducible refine (HS.out _).mono ?_); rintro e w5 ⟨rfl, hg5⟩
  go_wp2_with fail
  refine hK.out _ _ ⟨next2 hHeld.1 hg5, grown_trans hHeld.2 hg5⟩ (fun hHeld => ?_)
  clear hK K
  try simp only [Act.put, List.setIfInBounds_toArray, List.set_cons_zero, List.set_cons_succ]
  refine wpAnyH_take (i := 5) (oi := ⟨some 8, Op.binOp BinOp.eql 25 (Operand.tmp 3) (Operand.tmp 7) _, _, _, _, _⟩) (v := ?v5) rfl (by kernel_rfl) (by kernel_rfl) (by kernel_rfl) (fun _ _ _ h => h) (Or.inl ⟨by rfl, ?hy5⟩) (by assumption) ?rest5
  case hy5 => ((intro w0 hSw; obtain ⟨⟨hs1, hs2⟩, hs3⟩ := hSw; go_simp); try (with_reducible rfl))
  try simp only [Act.put, List.setIfInBounds_toArray, List.set_cons_zero, List.set_cons_succ]
  refine wpAnyH_take (i := 6) (oi := ⟨some 9, Op.move (Operand.tmp 8), _, _, _, _⟩) (v := ?v6) rfl (by kernel_rfl) (by kernel_rfl) (by kernel_rfl) (fun _ _ _ h => h) (Or.inl ⟨by rfl, ?hy6⟩) (by assumption) ?rest6
  case hy6 => ((intro w0 hSw; go_simp); try (with_reducible rfl))
  try simp only [Act.put, List.setIfInBounds_toArray, List.set_cons_zero, List.set_cons_succ]
  refine wpAnyH_take (i := 7) (oi := ⟨some 10, Op.fieldAddr 25 (Operand.tmp 1) 0, _, _, _, _⟩) (v := undef) rfl (by kernel_rfl) (by kernel_rfl) (by kernel_rfl) (fun _ _ _ h => h) (Or.inr ⟨by rfl, rfl⟩) (by assumption) ?rest7
  try simp only [Act.put, List.setIfInBounds_toArray, List.set_cons_zero, List.set_cons_succ]
  refine wpAnyH_take (i := 8) (oi := ⟨some 11, Op.load 3 (Operand.tmp 10), _, _, _, _⟩) (v := undef) rfl (by kernel_rfl) (by kernel_rfl) (by kernel_rfl) (fun _ _ _ h => h) (Or.inr ⟨by rfl, rfl⟩) (by assumption) ?rest8
  try simp only [Act.put, List.setIfInBounds_toArray, List.set_cons_zero, List.set_cons_succ]
  refine wpAnyH_take (i := 9) (oi := ⟨some 12, Op.call { callee := Callee.value (Operand.func 26), args := #[(Operand.tmp 11)], argTypes := #[3] }, _, _, _, _⟩) (v := undef) rfl (by kernel_rfl) (by kernel_rfl) (by kernel_rfl) (fun _ _ _ h => h) (Or.inr ⟨by rfl, rfl⟩) (by assumption) ?rest9
  try simp only [Act.put, List.setIfInBounds_toArray, List.set_cons_zero, List.set_cons_succ]
  refine wpAnyH_take (i := 10) (oi := ⟨some 13, Op.move (Operand.tmp 12), _, _, _, _⟩) (v := undef) rfl (by kernel_rfl) (by kernel_rfl) (by kernel_rfl) (fun _ _ _ h => h) (Or.inr ⟨by rfl, rfl⟩) (by assumption) ?rest10
  try simp only [Act.put, List.setIfInBounds_toArray, List.set_cons_zero, List.set_cons_succ]
  refine wpAnyH_take (i := 11) (oi := ⟨some 14, Op.load 25 (Operand.tmp 1), _, _, _, _⟩) (v := undef) rfl (by kernel_rfl) (by kernel_rfl) (by kernel_rfl) (fun _ _ _ h => h) (Or.inr ⟨by rfl, rfl⟩) (by assumption) ?rest11
  try simp only [Act.put, List.setIfInBounds_toArray, List.set_cons_zero, List.set_cons_succ]
  refine wpAnyH_take (i := 12) (oi := ⟨some 15, Op.fieldAddr 25 (Operand.tmp 1) 0, _, _, _, _⟩) (v := undef) rfl (by kernel_rfl) (by kernel_rfl) (by kernel_rfl) (fun _ _ _ h => h) (Or.inr ⟨by rfl, rfl⟩) (by assumption) ?rest12
  try simp only [Act.put, List.setIfInBounds_toArray, List.set_cons_zero, List.set_cons_succ]
  refine wpAnyH_take (i := 13) (oi := ⟨some 16, Op.load 3 (Operand.tmp 15), _, _, _, _⟩) (v := undef) rfl (by kernel_rfl) (by kernel_rfl) (by kernel_rfl) (fun _ _ _ h => h) (Or.inr ⟨by rfl, rfl⟩) (by assumption) ?rest13
  try simp only [Act.put, List.setIfInBounds_toArray, List.set_cons_zero, List.set_cons_succ]
  refine wpAnyH_take (i := 14) (oi := ⟨some 17, Op.call { callee := Callee.value (Operand.func 23), args := #[(Operand.tmp 16)], argTypes := #[3] }, _, _, _, _⟩) (v := undef) rfl (by kernel_rfl) (by kernel_rfl) (by kernel_rfl) (fun _ _ _ h => h) (Or.inr ⟨by rfl, rfl⟩) (by assumption) ?rest14
  try simp only [Act.put, List.setIfInBounds_toArray, List.set_cons_zero, List.set_cons_succ]
  refine wpAnyH_take (i := 15) (oi := ⟨some 18, Op.binOp BinOp.eql 25 (Operand.tmp 14) (Operand.tmp 17) _, _, _, _, _⟩) (v := undef) rfl (by kernel_rfl) (by kernel_rfl) (by kernel_rfl) (fun _ _ _ h => h) (Or.inr ⟨by rfl, rfl⟩) (by assumption) ?rest15
  try simp only [Act.put, List.setIfInBounds_toArray, List.set_cons_zero, List.set_cons_succ]
  refine wpAnyH_take (i := 16) (oi := ⟨some 19, Op.pick (Operand.tmp 13) (Operand.tmp 18) (Operand.const (Value.bool false)), _, _, _, _⟩) (v := undef) rfl (by kernel_rfl) (by kernel_rfl) (by kernel_rfl) (fun _ _ _ h => h) (Or.inr ⟨by rfl, rfl⟩) (by assumption) ?rest16
  try simp only [Act.put, List.setIfInBounds_toArray, List.set_cons_zero, List.set_cons_succ]
  refine wpAnyH_take (i := 17) (oi := ⟨some 20, Op.pick (Operand.tmp 9) (Operand.const (Value.bool true)) (Operand.tmp 19), _, _, _, _⟩) (v := ?v17) rfl (by kernel_rfl) (by kernel_rfl) (by kernel_rfl) (fun _ _ _ h => h) (Or.inl ⟨by rfl, ?hy17⟩) (by assumption) ?rest17
  case hy17 => ((intro w0 hSw; go_simp); try (with_reducible rfl))
  try simp only [Act.put, List.setIfInBounds_toArray, List.set_cons_zero, List.set_cons_succ]
  refine wpAnyH_done (by kernel_rfl) ?_ _
  go_wp2_with fail
  go_ret
  exact ⟨rfl, hHeld.2⟩
set_option maxHeartbeats 1000000 in
set_option maxRecDepth 1000000 in
/-- no core owns it, nor is it nobody's -/
theorem may_b (o : Int) (s : Nat) (w : World) (hs : s < 4294967296) (h1 : ¬ (o = -1 ∧ s < 65536)) (h2 : ¬ (0 ≤ o ∧ o ≤ 15)) : Calls Tryd.prog 13 #[.agg #[.int .i64 o, .int .u32 (s : Int)]] w fun e w' => e = .returned (.int .i64 2) ∧ w.grownBy w' none := by
  have HG0 : Hid (w.grownBy (w.alloc (.cells #[.int .i64 o, .int .u32 (s : Int)] 25)) none) := Lib.hid (grown_alloc (grown_refl _ _) _)
  have HC := Lib.hid (new2 w (.int .i64 o) (.int .u32 (s : Int)) 25)
  have hb := low16 s hs
  obtain ⟨m, hm⟩ : ∃ m : Int, m = ((s % 65536 : Nat) : Int) := ⟨_, rfl⟩
  have hd : decide (o = -1 ∧ (s : Int) = m) = false := decide_eq_false (by omega)
  rw [← hm] at hb
  have HS : Hid (∀ w, _) := Lib.hid fun w => shared_any m w
  have HI : Hid (∀ w, _) := Lib.hid fun w => core_any o w
  rw [decide_eq_false h2] at HI
  have he : ∀ w, (binOp .eql 25 (.agg #[.int .i64 o, .int .u32 (s : Int)]) (.agg #[.int .i64 (-1), .int .u32 m])).run Tryd.prog w = .ok (.bool false) w := fun w => by rw [eqE, hd]
  clear h1 h2 hm hd hs
  go_enter Tryd.func13, Tryd.ntmps13
  go_wp2_with fail
  refine wp_region_held_drew (S := fun w' => (w'.cell? ⟨w.heap.size, 0, none⟩ = some (.int .i64 o) ∧ w'.cell? ⟨w.heap.size, 1, none⟩ = some (.int .u32 (s : Int))) ∧ w.grownBy w' none) (by kernel_rfl) ⟨next2 HC.out (grown_drew (grown_refl _ _)), grown_drew HG0.out⟩ (fun hHeld => ?_)
  generalize (w.alloc _).drew = wd at hHeld ⊢
  refine wpAnyH_take (i := 0) (oi := ⟨some 3, Op.load 25 (Operand.tmp 1), _, _, _, _⟩) (v := ?v18) rfl (by kernel_rfl) (by kernel_rfl) (by kernel_rfl) (fun _ _ _ h => h) (Or.inl ⟨by rfl, ?hy18⟩) (by assumption) ?rest18
  case hy18 => ((intro w0 hSw; obtain ⟨⟨hs1, hs2⟩, hs3⟩ := hSw; go_simp); try (with_reducible rfl))
  try simp only [Act.put, List.setIfInBounds_toArray, List.set_cons_zero, List.set_cons_succ]
  refine wpAnyH_take (i := 1) (oi := ⟨some 4, Op.fieldAddr 25 (Operand.tmp 1) 1, _, _, _, _⟩) (v := ?v19) rfl (by kernel_rfl) (by kernel_rfl) (by kernel_rfl) (fun _ _ _ h => h) (Or.inl ⟨by rfl, ?hy19⟩) (by assumption) ?rest19
  case hy19 => ((intro w0 hSw; obtain ⟨⟨hs1, hs2⟩, hs3⟩ := hSw; go_simp); try (with_reducible rfl))
  try simp only [Act.put, List.setIfInBounds_toArray, List.set_cons_zero, List.set_cons_succ]
  refine wpAnyH_take (i := 2) (oi := ⟨some 5, Op.load 23 (Operand.tmp 4), _, _, _, _⟩) (v := ?v20) rfl (by kernel_rfl) (by kernel_rfl) (by kernel_rfl) (fun _ _ _ h => h) (Or.inl ⟨by rfl, ?hy20⟩) (by assumption) ?rest20
  case hy20 => ((intro w0 hSw; obtain ⟨⟨hs1, hs2⟩, hs3⟩ := hSw; go_simp); try (with_reducible rfl))
  try simp only [Act.put, List.setIfInBounds_toArray, List.set_cons_zero, List.set_cons_succ]
  refine wpAnyH_take (i := 3) (oi := ⟨some 6, Op.binOp BinOp.and 23 (Operand.tmp 5) (Operand.const (Value.int IntKind.u32 65535)) _, _, _, _, _⟩) (v := ?v21) rfl (by kernel_rfl) (by kernel_rfl) (by kernel_rfl) (fun _ _ _ h => h) (Or.inl ⟨by rfl, ?hy21⟩) (by assumption) ?rest21
  case hy21 => ((intro w0 hSw; obtain ⟨⟨hs1, hs2⟩, hs3⟩ := hSw; go_simp); try (with_reducible rfl))
  try simp only [Act.put, List.setIfInBounds_toArray, List.set_cons_zero, List.set_cons_succ]
  refine wpAnyH_ready (rs := [4]) (by kernel_rfl) (by simp) ?_
  refine AllReadyH.cons (o := ⟨some 7, Op.call { callee := Callee.value (Operand.func 25), args := #[(Operand.tmp 6)], argTypes := #[23] }, _, _, _, _⟩) rfl (fun K hK => ?_) AllReadyH.nil
  go_simp
  (with_reducible refine (HS.out _).mono ?_); rintro e w5 ⟨rfl, hg5⟩
  go_wp2_with fail
  refine hK.out _ _ ⟨next2 hHeld.1 hg5, grown_trans hHeld.2 hg5⟩ (fun hHeld => ?_)
  clear hK K
  try simp only [Act.put, List.setIfInBounds_toArray, List.set_cons_zero, List.set_cons_succ]
  refine wpAnyH_take (i := 5) (oi := ⟨some 8, Op.binOp BinOp.eql 25 (Operand.tmp 3) (Operand.tmp 7) _, _, _, _, _⟩) (v := ?v22) rfl (by kernel_rfl) (by kernel_rfl) (by kernel_rfl) (fun _ _ _ h => h) (Or.inl ⟨by rfl, ?hy22⟩) (by assumption) ?rest22
  case hy22 => ((intro w0 hSw; obtain ⟨⟨hs1, hs2⟩, hs3⟩ := hSw; go_simp); try (with_reducible rfl))
  try simp only [Act.put, List.setIfInBounds_toArray, List.set_cons_zero, List.set_cons_succ]
  refine wpAnyH_take (i := 6) (oi := ⟨some 9, Op.move (Operand.tmp 8), _, _, _, _⟩) (v := ?v23) rfl (by kernel_rfl) (by kernel_rfl) (by kernel_rfl) (fun _ _ _ h => h) (Or.inl ⟨by rfl, ?hy23⟩) (by assumption) ?rest23
  case hy23 => ((intro w0 hSw; go_simp); try (with_reducible rfl))
  try simp only [Act.put, List.setIfInBounds_toArray, List.set_cons_zero, List.set_cons_succ]
  refine wpAnyH_take (i := 7) (oi := ⟨some 10, Op.fieldAddr 25 (Operand.tmp 1) 0, _, _, _, _⟩) (v := ?v24) rfl (by kernel_rfl) (by kernel_rfl) (by kernel_rfl) (fun _ _ _ h => h) (Or.inl ⟨by rfl, ?hy24⟩) (by assumption) ?rest24
  case hy24 => ((intro w0 hSw; obtain ⟨⟨hs1, hs2⟩, hs3⟩ := hSw; go_simp); try (with_reducible rfl))
  try simp only [Act.put, List.setIfInBounds_toArray, List.set_cons_zero, List.set_cons_succ]
  refine wpAnyH_take (i := 8) (oi := ⟨some 11, Op.load 3 (Operand.tmp 10), _, _, _, _⟩) (v := ?v25) rfl (by kernel_rfl) (by kernel_rfl) (by kernel_rfl) (fun _ _ _ h => h) (Or.inl ⟨by rfl, ?hy25⟩) (by assumption) ?rest25
  case hy25 => ((intro w0 hSw; obtain ⟨⟨hs1, hs2⟩, hs3⟩ := hSw; go_simp); try (with_reducible rfl))
  try simp only [Act.put, List.setIfInBounds_toArray, List.set_cons_zero, List.set_cons_succ]
  refine wpAnyH_ready (rs := [9]) (by kernel_rfl) (by simp) ?_
  refine AllReadyH.cons (o := ⟨some 12, Op.call { callee := Callee.value (Operand.func 26), args := #[(Operand.tmp 11)], argTypes := #[3] }, _, _, _, _⟩) rfl (fun K hK => ?_) AllReadyH.nil
  go_simp
  (with_reducible refine (HI.out _).mono ?_); rintro e w6 ⟨rfl, rfl⟩
  go_wp2_with fail
  refine hK.out _ _ hHeld (fun hHeld => ?_)
  clear hK K
  try simp only [Act.put, List.setIfInBounds_toArray, List.set_cons_zero, List.set_cons_succ]
  refine wpAnyH_take (i := 10) (oi := ⟨some 13, Op.move (Operand.tmp 12), _, _, _, _⟩) (v := ?v26) rfl (by kernel_rfl) (by kernel_rfl) (by kernel_rfl) (fun _ _ _ h => h) (Or.inl ⟨by rfl, ?hy26⟩) (by assumption) ?rest26
  case hy26 => ((intro w0 hSw; go_simp); try (with_reducible rfl))
  try simp only [Act.put, List.setIfInBounds_toArray, List.set_cons_zero, List.set_cons_succ]
  refine wpAnyH_take (i := 11) (oi := ⟨some 14, Op.load 25 (Operand.tmp 1), _, _, _, _⟩) (v := undef) rfl (by kernel_rfl) (by kernel_rfl) (by kernel_rfl) (fun _ _ _ h => h) (Or.inr ⟨by rfl, rfl⟩) (by assumption) ?rest27
  try simp only [Act.put, List.setIfInBounds_toArray, List.set_cons_zero, List.set_cons_succ]
  refine wpAnyH_take (i := 12) (oi := ⟨some 15, Op.fieldAddr 25 (Operand.tmp 1) 0, _, _, _, _⟩) (v := undef) rfl (by kernel_rfl) (by kernel_rfl) (by kernel_rfl) (fun _ _ _ h => h) (Or.inr ⟨by rfl, rfl⟩) (by assumption) ?rest28
  try simp only [Act.put, List.setIfInBounds_toArray, List.set_cons_zero, List.set_cons_succ]
  refine wpAnyH_take (i := 13) (oi := ⟨some 16, Op.load 3 (Operand.tmp 15), _, _, _, _⟩) (v := undef) rfl (by kernel_rfl) (by kernel_rfl) (by kernel_rfl) (fun _ _ _ h => h) (Or.inr ⟨by rfl, rfl⟩) (by assumption) ?rest29
  try simp only [Act.put, List.setIfInBounds_toArray, List.set_cons_zero, List.set_cons_succ]
  refine wpAnyH_take (i := 14) (oi := ⟨some 17, Op.call { callee := Callee.value (Operand.func 23), args := #[(Operand.tmp 16)], argTypes := #[3] }, _, _, _, _⟩) (v := undef) rfl (by kernel_rfl) (by kernel_rfl) (by kernel_rfl) (fun _ _ _ h => h) (Or.inr ⟨by rfl, rfl⟩) (by assumption) ?rest30
  try simp only [Act.put, List.setIfInBounds_toArray, List.set_cons_zero, List.set_cons_succ]
  refine wpAnyH_take (i := 15) (oi := ⟨some 18, Op.binOp BinOp.eql 25 (Operand.tmp 14) (Operand.tmp 17) _, _, _, _, _⟩) (v := undef) rfl (by kernel_rfl) (by kernel_rfl) (by kernel_rfl) (fun _ _ _ h => h) (Or.inr ⟨by rfl, rfl⟩) (by assumption) ?rest31
  try simp only [Act.put, List.setIfInBounds_toArray, List.set_cons_zero, List.set_cons_succ]
  refine wpAnyH_take (i := 16) (oi := ⟨some 19, Op.pick (Operand.tmp 13) (Operand.tmp 18) (Operand.const (Value.bool false)), _, _, _, _⟩) (v := ?v32) rfl (by kernel_rfl) (by kernel_rfl) (by kernel_rfl) (fun _ _ _ h => h) (Or.inl ⟨by rfl, ?hy32⟩) (by assumption) ?rest32
  case hy32 => ((intro w0 hSw; go_simp); try (with_reducible rfl))
  try simp only [Act.put, List.setIfInBounds_toArray, List.set_cons_zero, List.set_cons_succ]
  refine wpAnyH_take (i := 17) (oi := ⟨some 20, Op.pick (Operand.tmp 9) (Operand.const (Value.bool true)) (Operand.tmp 19), _, _, _, _⟩) (v := ?v33) rfl (by kernel_rfl) (by kernel_rfl) (by kernel_rfl) (fun _ _ _ h => h) (Or.inl ⟨by rfl, ?hy33⟩) (by assumption) ?rest33
  case hy33 => ((intro w0 hSw; go_simp); try (with_reducible rfl))
  try simp only [Act.put, List.setIfInBounds_toArray, List.set_cons_zero, List.set_cons_succ]
  refine wpAnyH_done (by kernel_rfl) ?_ _
  go_wp2_with fail
  go_ret
  exact ⟨rfl, hHeld.2⟩
set_option maxHeartbeats 1000000 in
set_option maxRecDepth 1000000 in
theorem may_c (o : Int) (s : Nat) (w : World) (hs : s < 4294967296) (h2 : 0 ≤ o ∧ o ≤ 15) : Calls Tryd.prog 13 #[.agg #[.int .i64 o, .int .u32 (s : Int)]] w fun e w' => e = .returned (.int .i64 (err (decide (s = 0)))) ∧ w.grownBy w' none := by
  have HG0 : Hid (w.grownBy (w.alloc (.cells #[.int .i64 o, .int .u32 (s : Int)] 25)) none) := Lib.hid (grown_alloc (grown_refl _ _) _)
  have HC := Lib.hid (new2 w (.int .i64 o) (.int .u32 (s : Int)) 25)
  have hb := low16 s hs
  obtain ⟨m, hm⟩ : ∃ m : Int, m = ((s % 65536 : Nat) : Int) := ⟨_, rfl⟩
  have hd : decide (o = -1 ∧ (s : Int) = m) = false := decide_eq_false (by omega)
  rw [← hm] at hb
  have HS : Hid (∀ w, _) := Lib.hid fun w => shared_any m w
  have HI : Hid (∀ w, _) := Lib.hid fun w => core_any o w
  rw [decide_eq_true h2] at HI
  have HO : Hid (∀ w, _) := Lib.hid fun w => owned_any o w
  have he : ∀ w, (binOp .eql 25 (.agg #[.int .i64 o, .int .u32 (s : Int)]) (.agg #[.int .i64 (-1), .int .u32 m])).run Tryd.prog w = .ok (.bool false) w := fun w => by rw [eqE, hd]
  obtain ⟨b, hbb⟩ : ∃ b, b = decide (s = 0) := ⟨_, rfl⟩
  have he2 : ∀ w, (binOp .eql 25 (.agg #[.int .i64 o, .int .u32 (s : Int)]) (.agg #[.int .i64 o, .int .u32 0])).run Tryd.prog w = .ok (.bool b) w := fun w => by
    rw [eqE, hbb]; simp
  rw [← hbb]
  clear h2 hm hd hs hbb
  go_enter Tryd.func13, Tryd.ntmps13
  go_wp2_with fail
  refine wp_region_held_drew (S := fun w' => (w'.cell? ⟨w.heap.size, 0, none⟩ = some (.int .i64 o) ∧ w'.cell? ⟨w.heap.size, 1, none⟩ = some (.int .u32 (s : Int))) ∧ w.grownBy w' none) (by kernel_rfl) ⟨next2 HC.out (grown_drew (grown_refl _ _)), grown_drew HG0.out⟩ (fun hHeld => ?_)
  generalize (w.alloc _).drew = wd at hHeld ⊢
  refine wpAnyH_take (i := 0) (oi := ⟨some 3, Op.load 25 (Operand.tmp 1), _, _, _, _⟩) (v := ?v34) rfl (by kernel_rfl) (by kernel_rfl) (by kernel_rfl) (fun _ _ _ h => h) (Or.inl ⟨by rfl, ?hy34⟩) (by assumption) ?rest34
  case hy34 => ((intro w0 hSw; obtain ⟨⟨hs1, hs2⟩, hs3⟩ := hSw; go_simp); try (with_reducible rfl))
  try simp only [Act.put, List.setIfInBounds_toArray, List.set_cons_zero, List.set_cons_succ]
  refine wpAnyH_take (i := 1) (oi := ⟨some 4, Op.fieldAddr 25 (Operand.tmp 1) 1, _, _, _, _⟩) (v := ?v35) rfl (by kernel_rfl) (by kernel_rfl) (by kernel_rfl) (fun _ _ _ h => h) (Or.inl ⟨by rfl, ?hy35⟩) (by assumption) ?rest35
  case hy35 => ((intro w0 hSw; obtain ⟨⟨hs1, hs2⟩, hs3⟩ := hSw; go_simp); try (with_reducible rfl))
  try simp only [Act.put, List.setIfInBounds_toArray, List.set_cons_zero, List.set_cons_succ]
  refine wpAnyH_take (i := 2) (oi := ⟨some 5, Op.load 23 (Operand.tmp 4), _, _, _, _⟩) (v := ?v36) rfl (by kernel_rfl) (by kernel_rfl) (by kernel_rfl) (fun _ _ _ h => h) (Or.inl ⟨by rfl, ?hy36⟩) (by assumption) ?rest36
  case hy36 => ((intro w0 hSw; obtain ⟨⟨hs1, hs2⟩, hs3⟩ := hSw; go_simp); try (with_reducible rfl))
  try simp only [Act.put, List.setIfInBounds_toArray, List.set_cons_zero, List.set_cons_succ]
  refine wpAnyH_take (i := 3) (oi := ⟨some 6, Op.binOp BinOp.and 23 (Operand.tmp 5) (Operand.const (Value.int IntKind.u32 65535)) _, _, _, _, _⟩) (v := ?v37) rfl (by kernel_rfl) (by kernel_rfl) (by kernel_rfl) (fun _ _ _ h => h) (Or.inl ⟨by rfl, ?hy37⟩) (by assumption) ?rest37
  case hy37 => ((intro w0 hSw; obtain ⟨⟨hs1, hs2⟩, hs3⟩ := hSw; go_simp); try (with_reducible rfl))
  try simp only [Act.put, List.setIfInBounds_toArray, List.set_cons_zero, List.set_cons_succ]
  refine wpAnyH_ready (rs := [4]) (by kernel_rfl) (by simp) ?_
  refine AllReadyH.cons (o := ⟨some 7, Op.call { callee := Callee.value (Operand.func 25), args := #[(Operand.tmp 6)], argTypes := #[23] }, _, _, _, _⟩) rfl (fun K hK => ?_) AllReadyH.nil
  go_simp
  (with_reducible refine (HS.out _).mono ?_); rintro e w5 ⟨rfl, hg5⟩
  go_wp2_with fail
  refine hK.out _ _ ⟨next2 hHeld.1 hg5, grown_trans hHeld.2 hg5⟩ (fun hHeld => ?_)
  clear hK K
  try simp only [Act.put, List.setIfInBounds_toArray, List.set_cons_zero, List.set_cons_succ]
  refine wpAnyH_take (i := 5) (oi := ⟨some 8, Op.binOp BinOp.eql 25 (Operand.tmp 3) (Operand.tmp 7) _, _, _, _, _⟩) (v := ?v38) rfl (by kernel_rfl) (by kernel_rfl) (by kernel_rfl) (fun _ _ _ h => h) (Or.inl ⟨by rfl, ?hy38⟩) (by assumption) ?rest38
  case hy38 => ((intro w0 hSw; obtain ⟨⟨hs1, hs2⟩, hs3⟩ := hSw; go_simp); try (with_reducible rfl))
  try simp only [Act.put, List.setIfInBounds_toArray, List.set_cons_zero, List.set_cons_succ]
  refine wpAnyH_take (i := 6) (oi := ⟨some 9, Op.move (Operand.tmp 8), _, _, _, _⟩) (v := ?v39) rfl (by kernel_rfl) (by kernel_rfl) (by kernel_rfl) (fun _ _ _ h => h) (Or.inl ⟨by rfl, ?hy39⟩) (by assumption) ?rest39
  case hy39 => ((intro w0 hSw; go_simp); try (with_reducible rfl))
  try simp only [Act.put, List.setIfInBounds_toArray, List.set_cons_zero, List.set_cons_succ]
  refine wpAnyH_take (i := 7) (oi := ⟨some 10, Op.fieldAddr 25 (Operand.tmp 1) 0, _, _, _, _⟩) (v := ?v40) rfl (by kernel_rfl) (by kernel_rfl) (by kernel_rfl) (fun _ _ _ h => h) (Or.inl ⟨by rfl, ?hy40⟩) (by assumption) ?rest40
  case hy40 => ((intro w0 hSw; obtain ⟨⟨hs1, hs2⟩, hs3⟩ := hSw; go_simp); try (with_reducible rfl))
  try simp only [Act.put, List.setIfInBounds_toArray, List.set_cons_zero, List.set_cons_succ]
  refine wpAnyH_take (i := 8) (oi := ⟨some 11, Op.load 3 (Operand.tmp 10), _, _, _, _⟩) (v := ?v41) rfl (by kernel_rfl) (by kernel_rfl) (by kernel_rfl) (fun _ _ _ h => h) (Or.inl ⟨by rfl, ?hy41⟩) (by assumption) ?rest41
  case hy41 => ((intro w0 hSw; obtain ⟨⟨hs1, hs2⟩, hs3⟩ := hSw; go_simp); try (with_reducible rfl))
  try simp only [Act.put, List.setIfInBounds_toArray, List.set_cons_zero, List.set_cons_succ]
  refine wpAnyH_ready (rs := [9]) (by kernel_rfl) (by simp) ?_
  refine AllReadyH.cons (o := ⟨some 12, Op.call { callee := Callee.value (Operand.func 26), args := #[(Operand.tmp 11)], argTypes := #[3] }, _, _, _, _⟩) rfl (fun K hK => ?_) AllReadyH.nil
  go_simp
  (with_reducible refine (HI.out _).mono ?_); rintro e w6 ⟨rfl, rfl⟩
  go_wp2_with fail
  refine hK.out _ _ hHeld (fun hHeld => ?_)
  clear hK K
  try simp only [Act.put, List.setIfInBounds_toArray, List.set_cons_zero, List.set_cons_succ]
  refine wpAnyH_take (i := 10) (oi := ⟨some 13, Op.move (Operand.tmp 12), _, _, _, _⟩) (v := ?v42) rfl (by kernel_rfl) (by kernel_rfl) (by kernel_rfl) (fun _ _ _ h => h) (Or.inl ⟨by rfl, ?hy42⟩) (by assumption) ?rest42
  case hy42 => ((intro w0 hSw; go_simp); try (with_reducible rfl))
  try simp only [Act.put, List.setIfInBounds_toArray, List.set_cons_zero, List.set_cons_succ]
  refine wpAnyH_take (i := 11) (oi := ⟨some 14, Op.load 25 (Operand.tmp 1), _, _, _, _⟩) (v := ?v43) rfl (by kernel_rfl) (by kernel_rfl) (by kernel_rfl) (fun _ _ _ h => h) (Or.inl ⟨by rfl, ?hy43⟩) (by assumption) ?rest43
  case hy43 => ((intro w0 hSw; obtain ⟨⟨hs1, hs2⟩, hs3⟩ := hSw; go_simp); try (with_reducible rfl))
  try simp only [Act.put, List.setIfInBounds_toArray, List.set_cons_zero, List.set_cons_succ]
  refine wpAnyH_take (i := 12) (oi := ⟨some 15, Op.fieldAddr 25 (Operand.tmp 1) 0, _, _, _, _⟩) (v := ?v44) rfl (by kernel_rfl) (by kernel_rfl) (by kernel_rfl) (fun _ _ _ h => h) (Or.inl ⟨by rfl, ?hy44⟩) (by assumption) ?rest44
  case hy44 => ((intro w0 hSw; obtain ⟨⟨hs1, hs2⟩, hs3⟩ := hSw; go_simp); try (with_reducible rfl))
  try simp only [Act.put, List.setIfInBounds_toArray, List.set_cons_zero, List.set_cons_succ]
  refine wpAnyH_take (i := 13) (oi := ⟨some 16, Op.load 3 (Operand.tmp 15), _, _, _, _⟩) (v := ?v45) rfl (by kernel_rfl) (by kernel_rfl) (by kernel_rfl) (fun _ _ _ h => h) (Or.inl ⟨by rfl, ?hy45⟩) (by assumption) ?rest45
  case hy45 => ((intro w0 hSw; obtain ⟨⟨hs1, hs2⟩, hs3⟩ := hSw; go_simp); try (with_reducible rfl))
  try simp only [Act.put, List.setIfInBounds_toArray, List.set_cons_zero, List.set_cons_succ]
  refine wpAnyH_ready (rs := [14]) (by kernel_rfl) (by simp) ?_
  refine AllReadyH.cons (o := ⟨some 17, Op.call { callee := Callee.value (Operand.func 23), args := #[(Operand.tmp 16)], argTypes := #[3] }, _, _, _, _⟩) rfl (fun K hK => ?_) AllReadyH.nil
  go_simp
  (with_reducible refine (HO.out _).mono ?_); rintro e w5 ⟨rfl, hg5⟩
  go_wp2_with fail
  refine hK.out _ _ ⟨next2 hHeld.1 hg5, grown_trans hHeld.2 hg5⟩ (fun hHeld => ?_)
  clear hK K
  try simp only [Act.put, List.setIfInBounds_toArray, List.set_cons_zero, List.set_cons_succ]
  refine wpAnyH_take (i := 15) (oi := ⟨some 18, Op.binOp BinOp.eql 25 (Operand.tmp 14) (Operand.tmp 17) _, _, _, _, _⟩) (v := ?v46) rfl (by kernel_rfl) (by kernel_rfl) (by kernel_rfl) (fun _ _ _ h => h) (Or.inl ⟨by rfl, ?hy46⟩) (by assumption) ?rest46
  case hy46 => ((intro w0 hSw; obtain ⟨⟨hs1, hs2⟩, hs3⟩ := hSw; go_simp); try (with_reducible rfl))
  try simp only [Act.put, List.setIfInBounds_toArray, List.set_cons_zero, List.set_cons_succ]
  refine wpAnyH_take (i := 16) (oi := ⟨some 19, Op.pick (Operand.tmp 13) (Operand.tmp 18) (Operand.const (Value.bool false)), _, _, _, _⟩) (v := ?v47) rfl (by kernel_rfl) (by kernel_rfl) (by kernel_rfl) (fun _ _ _ h => h) (Or.inl ⟨by rfl, ?hy47⟩) (by assumption) ?rest47
  case hy47 => ((intro w0 hSw; go_simp); try (with_reducible rfl))
  try simp only [Act.put, List.setIfInBounds_toArray, List.set_cons_zero, List.set_cons_succ]
  refine wpAnyH_take (i := 17) (oi := ⟨some 20, Op.pick (Operand.tmp 9) (Operand.const (Value.bool true)) (Operand.tmp 19), _, _, _, _⟩) (v := ?v48) rfl (by kernel_rfl) (by kernel_rfl) (by kernel_rfl) (fun _ _ _ h => h) (Or.inl ⟨by rfl, ?hy48⟩) (by assumption) ?rest48
  case hy48 => ((intro w0 hSw; go_simp); try (with_reducible rfl))
  try simp only [Act.put, List.setIfInBounds_toArray, List.set_cons_zero, List.set_cons_succ]
  refine wpAnyH_done (by kernel_rfl) ?_ _
  cases b
  · go_wp2_with fail
    go_ret
    exact ⟨rfl, hHeld.2⟩
  · go_wp2_with fail
    go_ret
    exact ⟨rfl, hHeld.2⟩
theorem may_any (o : Int) (s : Nat) (w : World) (hs : s < 4294967296) : Calls Tryd.prog 13 #[.agg #[.int .i64 o, .int .u32 (s : Int)]] w fun e w' => e = .returned (.int .i64 (err (En.may ⟨o, s⟩))) ∧ w.grownBy w' none := by
  by_cases h2 : 0 ≤ o ∧ o ≤ 15
  · have e : En.may ⟨o, s⟩ = decide (s = 0) := by
      by_cases h : s = 0
      · rw [may_yes (by omega), decide_eq_true h]
      · rw [may_no (by omega), decide_eq_false h]
    rw [e]; exact may_c o s w hs h2
  · by_cases h1 : o = -1 ∧ s < 65536
    · obtain ⟨rfl, h1⟩ := h1
      rw [may_yes (by omega)]; exact may_a s w h1
    · rw [may_no (by omega)]; exact may_b o s w hs h1 h2
end Go.Proofs.YtplebmafdfciaaaDoor.en
