/-
  Where a core goes on behind an instruction: a contract. No condition but the bounds that each theorem names.
-/
import Derived.Test.YtmfckkioccmblaaDoorStD
namespace Go.Proofs.YtmfckkioccmblaaDoor.sg
open Go Go.ChangeShapes Go.WideShapes Go.ChangeAt Go.RowKit Go.Proofs.YtmfckkioccmblaaDoor.cd
set_option linter.unusedVariables false
set_option maxRecDepth 1000000

theorem wp_mono {P : Program} {c : Code} {Q R : Exit → Act → World → Prop} {a : Act} {w : World} (h : c.wp P Q a w) (hi : ∀ e a w, Q e a w → R e a w) : c.wp P R a w := by
  intro b k cs
  obtain ⟨e, a₁, w₁, hq, harr⟩ := h b k cs
  exact ⟨e, a₁, w₁, hi _ _ _ hq, harr⟩
/-- A scope that is left by gotos to one label, each of which goes on there and jumps no more. -/
theorem wp_scope_tail {P : Program} {a : Act} {w : World} {Q : Exit → Act → World → Prop} {c rest : Code} (l : Nat) (hf : findLabel c l = some rest)
    (first : c.wp P (Exit.jump l (fun a w => rest.wp P (Exit.jump l (fun _ _ => False) Q) a w) Q) a w) : (Code.scope c).wp P Q a w :=
  wp_scope_jumps l (fun a w => rest.wp P (Exit.jump l (fun _ _ => False) Q) a w) (fun _ _ => 0) hf first fun a w h => wp_mono h fun e a w hq => by
    cases e with
    | goto l' => exact hq.2.elim
    | _ => exact hq
theorem jump_ret (l : Nat) (J : Act → World → Prop) (Q : Exit → Act → World → Prop) (a : Act) (w : World) : Exit.jump l J Q .ret a w = Q .ret a w := rfl
/-- Where a core goes on behind an instruction. -/
def goes (x : List Int) (p : Int) (c : Cd) : Int := if ((13 ≤ c.op ∧ c.op ≤ 15) ∧ val c.op (gt x c.a) (gt x c.b) ≠ 0) ∨ c.op = 16 then p + 1 + c.n else p + 1
theorem boxes2 (w : World) (x : List Int) (o a b c n : Int) : ∃ w2, (w.alloc (.cells (row x) 23)).alloc (.cells #[.int .u8 o, .int .i64 a, .int .i64 b, .int .i64 c, .int .i64 n] 28) = w2 ∧ w.grownBy w2 none ∧ w2.heap[w.heap.size]? = some (.cells (row x) 23 (0, 0)) ∧ w2.heap[w.heap.size + 1]? = some (.cells #[.int .u8 o, .int .i64 a, .int .i64 b, .int .i64 c, .int .i64 n] 28 (0, 0)) := by
  obtain ⟨w2, h, hg, h1, h2, _⟩ := two_allocs w (.cells (row x) 23) (.cells #[.int .u8 o, .int .i64 a, .int .i64 b, .int .i64 c, .int .i64 n] 28)
  exact ⟨w2, h, hg, h1, h2⟩
set_option maxHeartbeats 4000000 in
theorem goes_13_1 (x : List Int) (hx : x.length = 16) (p a b c n : Int) (w : World) (h0 : 0 ≤ p) (h1 : p ≤ 1024) (n0 : -2097152 ≤ n) (n1 : n ≤ 2097151) (hv : (val 13 (gt x a) (gt x b) == 0) = false) : Calls Tryd.prog 19 #[.agg (row x), .int .i64 p, .agg #[.int .u8 13, .int .i64 a, .int .i64 b, .int .i64 c, .int .i64 n]] w fun e w' => e = .returned (.int .i64 (p + 1 + n)) ∧ w.grownBy w' none := by
  obtain ⟨w3, hw3, hg3, hA3, hC3⟩ := boxes2 w x 13 a b c n
  have HW3 := Lib.hid hw3
  have HG3 := Lib.hid hg3
  have HK := Lib.hid (keepX hA3 hC3)
  have hix : ∀ w, (Instr.index 44 (.agg wks) (.int .u8 13)).run Tryd.prog w = .ok (.func (.func 36) #[] #[]) w := fun w => idxW 13 _ (by decide) rfl w
  have HGT : Hid (∀ n w, _) := Lib.hid fun n w => get_any x hx n w
  have HWK : Hid (∀ w, _) := Lib.hid fun w => works_row w
  have HF : Hid (∀ y z w, Calls Tryd.prog 36 #[.int .u32 y, .int .u32 z] w fun e w' => e = .returned (.int .u32 (val 13 y z)) ∧ w = w') := Lib.hid fun y z w => same_any y z w
  obtain ⟨t, nn, HT, hagg, hsize, hsz, hld, hst⟩ := namedR
  have hld := hld w.heap.size x hx
  clear hw3 hg3 hA3 hC3 hst hsz hx
  go_enter Tryd.func19, Tryd.ntmps19
  go_wp2
  refine wp_scope_tail 0 rfl ?_
  rw [HW3.out]
  obtain ⟨_, c0, c1, c2, c3, c4⟩ := HK.out _ (grown_refl _ _)
  go_upto_region 6 with fail
  clear c0 c1 c2 c3 c4
  go_region_held3 (fun w' => w'.rangeAt w.heap.size 0 (rl x) ∧ w'.cell? ⟨w.heap.size + 1, 0, none⟩ = some (.int .u8 13) ∧ w'.cell? ⟨w.heap.size + 1, 1, none⟩ = some (.int .i64 a) ∧ w'.cell? ⟨w.heap.size + 1, 2, none⟩ = some (.int .i64 b) ∧ w'.cell? ⟨w.heap.size + 1, 3, none⟩ = some (.int .i64 c) ∧ w'.cell? ⟨w.heap.size + 1, 4, none⟩ = some (.int .i64 n))
    (first | (with_reducible exact HK.out _ (grown_refl _ _)) | (with_reducible exact HK.out _ (grown_drew (grown_refl _ _))) | (with_reducible exact HK.out _ HG4.out))
    (first | (go_at_call 23; ((with_reducible refine (HWK.out _).mono ?_); rintro e w4 ⟨rfl, hg4⟩; have HG4 := Lib.hid (grown_trans (grown_drew (grown_refl w3 none)) hg4); clear hg4)))
  have HG4' := Lib.hid (grown_drew HG4.out)
  go_upto_region 7 with fail
  rw [HT.out.1]
  go_region_held3 (fun w' => w'.rangeAt w.heap.size 0 (rl x) ∧ w'.cell? ⟨w.heap.size + 1, 0, none⟩ = some (.int .u8 13) ∧ w'.cell? ⟨w.heap.size + 1, 1, none⟩ = some (.int .i64 a) ∧ w'.cell? ⟨w.heap.size + 1, 2, none⟩ = some (.int .i64 b) ∧ w'.cell? ⟨w.heap.size + 1, 3, none⟩ = some (.int .i64 c) ∧ w'.cell? ⟨w.heap.size + 1, 4, none⟩ = some (.int .i64 n))
    (first | (with_reducible exact HK.out _ HG4'.out) | (with_reducible exact HK.out _ HG4.out) | (with_reducible exact HK.out _ HG5.out) | (with_reducible exact HK.out _ HG6.out))
    (first
      | (go_at_call 15; ((with_reducible refine (HGT.out _ _).mono ?_); rintro e w5 ⟨rfl, hg5⟩; have HG5 := Lib.hid (grown_trans HG4'.out hg5); clear hg5))
      | (go_at_call 15; ((with_reducible refine (HGT.out _ _).mono ?_); rintro e w6 ⟨rfl, hg6⟩; have HG6 := Lib.hid (grown_trans HG5.out hg6); clear hg6))
      | (go_at_call 36; ((with_reducible refine (HF.out _ _ _).mono ?_); rintro e w7 ⟨rfl, rfl⟩)))
  obtain ⟨_, c0, c1, c2, c3, c4⟩ := HK.out _ HG6.out
  go_wp2_with fail
  go_step3
  go_wp2
  rw [jump_ret]
  go_ret
  exact ⟨rfl, grown_trans HG3.out HG6.out⟩
set_option maxHeartbeats 4000000 in
theorem goes_13_0 (x : List Int) (hx : x.length = 16) (p a b c n : Int) (w : World) (h0 : 0 ≤ p) (h1 : p ≤ 1024) (n0 : -2097152 ≤ n) (n1 : n ≤ 2097151) (hv : (val 13 (gt x a) (gt x b) == 0) = true) : Calls Tryd.prog 19 #[.agg (row x), .int .i64 p, .agg #[.int .u8 13, .int .i64 a, .int .i64 b, .int .i64 c, .int .i64 n]] w fun e w' => e = .returned (.int .i64 (p + 1)) ∧ w.grownBy w' none := by
  obtain ⟨w3, hw3, hg3, hA3, hC3⟩ := boxes2 w x 13 a b c n
  have HW3 := Lib.hid hw3
  have HG3 := Lib.hid hg3
  have HK := Lib.hid (keepX hA3 hC3)
  have hix : ∀ w, (Instr.index 44 (.agg wks) (.int .u8 13)).run Tryd.prog w = .ok (.func (.func 36) #[] #[]) w := fun w => idxW 13 _ (by decide) rfl w
  have HGT : Hid (∀ n w, _) := Lib.hid fun n w => get_any x hx n w
  have HWK : Hid (∀ w, _) := Lib.hid fun w => works_row w
  have HF : Hid (∀ y z w, Calls Tryd.prog 36 #[.int .u32 y, .int .u32 z] w fun e w' => e = .returned (.int .u32 (val 13 y z)) ∧ w = w') := Lib.hid fun y z w => same_any y z w
  obtain ⟨t, nn, HT, hagg, hsize, hsz, hld, hst⟩ := namedR
  have hld := hld w.heap.size x hx
  clear hw3 hg3 hA3 hC3 hst hsz hx
  go_enter Tryd.func19, Tryd.ntmps19
  go_wp2
  refine wp_scope_tail 0 rfl ?_
  rw [HW3.out]
  obtain ⟨_, c0, c1, c2, c3, c4⟩ := HK.out _ (grown_refl _ _)
  go_upto_region 6 with fail
  clear c0 c1 c2 c3 c4
  go_region_held3 (fun w' => w'.rangeAt w.heap.size 0 (rl x) ∧ w'.cell? ⟨w.heap.size + 1, 0, none⟩ = some (.int .u8 13) ∧ w'.cell? ⟨w.heap.size + 1, 1, none⟩ = some (.int .i64 a) ∧ w'.cell? ⟨w.heap.size + 1, 2, none⟩ = some (.int .i64 b) ∧ w'.cell? ⟨w.heap.size + 1, 3, none⟩ = some (.int .i64 c) ∧ w'.cell? ⟨w.heap.size + 1, 4, none⟩ = some (.int .i64 n))
    (first | (with_reducible exact HK.out _ (grown_refl _ _)) | (with_reducible exact HK.out _ (grown_drew (grown_refl _ _))) | (with_reducible exact HK.out _ HG4.out))
    (first | (go_at_call 23; ((with_reducible refine (HWK.out _).mono ?_); rintro e w4 ⟨rfl, hg4⟩; have HG4 := Lib.hid (grown_trans (grown_drew (grown_refl w3 none)) hg4); clear hg4)))
  have HG4' := Lib.hid (grown_drew HG4.out)
  go_upto_region 7 with fail
  rw [HT.out.1]
  go_region_held3 (fun w' => w'.rangeAt w.heap.size 0 (rl x) ∧ w'.cell? ⟨w.heap.size + 1, 0, none⟩ = some (.int .u8 13) ∧ w'.cell? ⟨w.heap.size + 1, 1, none⟩ = some (.int .i64 a) ∧ w'.cell? ⟨w.heap.size + 1, 2, none⟩ = some (.int .i64 b) ∧ w'.cell? ⟨w.heap.size + 1, 3, none⟩ = some (.int .i64 c) ∧ w'.cell? ⟨w.heap.size + 1, 4, none⟩ = some (.int .i64 n))
    (first | (with_reducible exact HK.out _ HG4'.out) | (with_reducible exact HK.out _ HG4.out) | (with_reducible exact HK.out _ HG5.out) | (with_reducible exact HK.out _ HG6.out))
    (first
      | (go_at_call 15; ((with_reducible refine (HGT.out _ _).mono ?_); rintro e w5 ⟨rfl, hg5⟩; have HG5 := Lib.hid (grown_trans HG4'.out hg5); clear hg5))
      | (go_at_call 15; ((with_reducible refine (HGT.out _ _).mono ?_); rintro e w6 ⟨rfl, hg6⟩; have HG6 := Lib.hid (grown_trans HG5.out hg6); clear hg6))
      | (go_at_call 36; ((with_reducible refine (HF.out _ _ _).mono ?_); rintro e w7 ⟨rfl, rfl⟩)))
  obtain ⟨_, c0, c1, c2, c3, c4⟩ := HK.out _ HG6.out
  go_wp2_with fail
  go_step3
  refine ⟨rfl, ?_⟩
  go_wp2
  rw [jump_ret]
  go_ret
  exact ⟨rfl, grown_trans HG3.out HG6.out⟩
set_option maxHeartbeats 4000000 in
theorem goes_14_1 (x : List Int) (hx : x.length = 16) (p a b c n : Int) (w : World) (h0 : 0 ≤ p) (h1 : p ≤ 1024) (n0 : -2097152 ≤ n) (n1 : n ≤ 2097151) (hv : (val 14 (gt x a) (gt x b) == 0) = false) : Calls Tryd.prog 19 #[.agg (row x), .int .i64 p, .agg #[.int .u8 14, .int .i64 a, .int .i64 b, .int .i64 c, .int .i64 n]] w fun e w' => e = .returned (.int .i64 (p + 1 + n)) ∧ w.grownBy w' none := by
  obtain ⟨w3, hw3, hg3, hA3, hC3⟩ := boxes2 w x 14 a b c n
  have HW3 := Lib.hid hw3
  have HG3 := Lib.hid hg3
  have HK := Lib.hid (keepX hA3 hC3)
  have hix : ∀ w, (Instr.index 44 (.agg wks) (.int .u8 14)).run Tryd.prog w = .ok (.func (.func 37) #[] #[]) w := fun w => idxW 14 _ (by decide) rfl w
  have HGT : Hid (∀ n w, _) := Lib.hid fun n w => get_any x hx n w
  have HWK : Hid (∀ w, _) := Lib.hid fun w => works_row w
  have HF : Hid (∀ y z w, Calls Tryd.prog 37 #[.int .u32 y, .int .u32 z] w fun e w' => e = .returned (.int .u32 (val 14 y z)) ∧ w = w') := Lib.hid fun y z w => unlike_any y z w
  obtain ⟨t, nn, HT, hagg, hsize, hsz, hld, hst⟩ := namedR
  have hld := hld w.heap.size x hx
  clear hw3 hg3 hA3 hC3 hst hsz hx
  go_enter Tryd.func19, Tryd.ntmps19
  go_wp2
  refine wp_scope_tail 0 rfl ?_
  rw [HW3.out]
  obtain ⟨_, c0, c1, c2, c3, c4⟩ := HK.out _ (grown_refl _ _)
  go_upto_region 6 with fail
  clear c0 c1 c2 c3 c4
  go_region_held3 (fun w' => w'.rangeAt w.heap.size 0 (rl x) ∧ w'.cell? ⟨w.heap.size + 1, 0, none⟩ = some (.int .u8 14) ∧ w'.cell? ⟨w.heap.size + 1, 1, none⟩ = some (.int .i64 a) ∧ w'.cell? ⟨w.heap.size + 1, 2, none⟩ = some (.int .i64 b) ∧ w'.cell? ⟨w.heap.size + 1, 3, none⟩ = some (.int .i64 c) ∧ w'.cell? ⟨w.heap.size + 1, 4, none⟩ = some (.int .i64 n))
    (first | (with_reducible exact HK.out _ (grown_refl _ _)) | (with_reducible exact HK.out _ (grown_drew (grown_refl _ _))) | (with_reducible exact HK.out _ HG4.out))
    (first | (go_at_call 23; ((with_reducible refine (HWK.out _).mono ?_); rintro e w4 ⟨rfl, hg4⟩; have HG4 := Lib.hid (grown_trans (grown_drew (grown_refl w3 none)) hg4); clear hg4)))
  have HG4' := Lib.hid (grown_drew HG4.out)
  go_upto_region 7 with fail
  rw [HT.out.1]
  go_region_held3 (fun w' => w'.rangeAt w.heap.size 0 (rl x) ∧ w'.cell? ⟨w.heap.size + 1, 0, none⟩ = some (.int .u8 14) ∧ w'.cell? ⟨w.heap.size + 1, 1, none⟩ = some (.int .i64 a) ∧ w'.cell? ⟨w.heap.size + 1, 2, none⟩ = some (.int .i64 b) ∧ w'.cell? ⟨w.heap.size + 1, 3, none⟩ = some (.int .i64 c) ∧ w'.cell? ⟨w.heap.size + 1, 4, none⟩ = some (.int .i64 n))
    (first | (with_reducible exact HK.out _ HG4'.out) | (with_reducible exact HK.out _ HG4.out) | (with_reducible exact HK.out _ HG5.out) | (with_reducible exact HK.out _ HG6.out))
    (first
      | (go_at_call 15; ((with_reducible refine (HGT.out _ _).mono ?_); rintro e w5 ⟨rfl, hg5⟩; have HG5 := Lib.hid (grown_trans HG4'.out hg5); clear hg5))
      | (go_at_call 15; ((with_reducible refine (HGT.out _ _).mono ?_); rintro e w6 ⟨rfl, hg6⟩; have HG6 := Lib.hid (grown_trans HG5.out hg6); clear hg6))
      | (go_at_call 37; ((with_reducible refine (HF.out _ _ _).mono ?_); rintro e w7 ⟨rfl, rfl⟩)))
  obtain ⟨_, c0, c1, c2, c3, c4⟩ := HK.out _ HG6.out
  go_wp2_with fail
  go_step3
  go_wp2
  rw [jump_ret]
  go_ret
  exact ⟨rfl, grown_trans HG3.out HG6.out⟩
set_option maxHeartbeats 4000000 in
theorem goes_14_0 (x : List Int) (hx : x.length = 16) (p a b c n : Int) (w : World) (h0 : 0 ≤ p) (h1 : p ≤ 1024) (n0 : -2097152 ≤ n) (n1 : n ≤ 2097151) (hv : (val 14 (gt x a) (gt x b) == 0) = true) : Calls Tryd.prog 19 #[.agg (row x), .int .i64 p, .agg #[.int .u8 14, .int .i64 a, .int .i64 b, .int .i64 c, .int .i64 n]] w fun e w' => e = .returned (.int .i64 (p + 1)) ∧ w.grownBy w' none := by
  obtain ⟨w3, hw3, hg3, hA3, hC3⟩ := boxes2 w x 14 a b c n
  have HW3 := Lib.hid hw3
  have HG3 := Lib.hid hg3
  have HK := Lib.hid (keepX hA3 hC3)
  have hix : ∀ w, (Instr.index 44 (.agg wks) (.int .u8 14)).run Tryd.prog w = .ok (.func (.func 37) #[] #[]) w := fun w => idxW 14 _ (by decide) rfl w
  have HGT : Hid (∀ n w, _) := Lib.hid fun n w => get_any x hx n w
  have HWK : Hid (∀ w, _) := Lib.hid fun w => works_row w
  have HF : Hid (∀ y z w, Calls Tryd.prog 37 #[.int .u32 y, .int .u32 z] w fun e w' => e = .returned (.int .u32 (val 14 y z)) ∧ w = w') := Lib.hid fun y z w => unlike_any y z w
  obtain ⟨t, nn, HT, hagg, hsize, hsz, hld, hst⟩ := namedR
  have hld := hld w.heap.size x hx
  clear hw3 hg3 hA3 hC3 hst hsz hx
  go_enter Tryd.func19, Tryd.ntmps19
  go_wp2
  refine wp_scope_tail 0 rfl ?_
  rw [HW3.out]
  obtain ⟨_, c0, c1, c2, c3, c4⟩ := HK.out _ (grown_refl _ _)
  go_upto_region 6 with fail
  clear c0 c1 c2 c3 c4
  go_region_held3 (fun w' => w'.rangeAt w.heap.size 0 (rl x) ∧ w'.cell? ⟨w.heap.size + 1, 0, none⟩ = some (.int .u8 14) ∧ w'.cell? ⟨w.heap.size + 1, 1, none⟩ = some (.int .i64 a) ∧ w'.cell? ⟨w.heap.size + 1, 2, none⟩ = some (.int .i64 b) ∧ w'.cell? ⟨w.heap.size + 1, 3, none⟩ = some (.int .i64 c) ∧ w'.cell? ⟨w.heap.size + 1, 4, none⟩ = some (.int .i64 n))
    (first | (with_reducible exact HK.out _ (grown_refl _ _)) | (with_reducible exact HK.out _ (grown_drew (grown_refl _ _))) | (with_reducible exact HK.out _ HG4.out))
    (first | (go_at_call 23; ((with_reducible refine (HWK.out _).mono ?_); rintro e w4 ⟨rfl, hg4⟩; have HG4 := Lib.hid (grown_trans (grown_drew (grown_refl w3 none)) hg4); clear hg4)))
  have HG4' := Lib.hid (grown_drew HG4.out)
  go_upto_region 7 with fail
  rw [HT.out.1]
  go_region_held3 (fun w' => w'.rangeAt w.heap.size 0 (rl x) ∧ w'.cell? ⟨w.heap.size + 1, 0, none⟩ = some (.int .u8 14) ∧ w'.cell? ⟨w.heap.size + 1, 1, none⟩ = some (.int .i64 a) ∧ w'.cell? ⟨w.heap.size + 1, 2, none⟩ = some (.int .i64 b) ∧ w'.cell? ⟨w.heap.size + 1, 3, none⟩ = some (.int .i64 c) ∧ w'.cell? ⟨w.heap.size + 1, 4, none⟩ = some (.int .i64 n))
    (first | (with_reducible exact HK.out _ HG4'.out) | (with_reducible exact HK.out _ HG4.out) | (with_reducible exact HK.out _ HG5.out) | (with_reducible exact HK.out _ HG6.out))
    (first
      | (go_at_call 15; ((with_reducible refine (HGT.out _ _).mono ?_); rintro e w5 ⟨rfl, hg5⟩; have HG5 := Lib.hid (grown_trans HG4'.out hg5); clear hg5))
      | (go_at_call 15; ((with_reducible refine (HGT.out _ _).mono ?_); rintro e w6 ⟨rfl, hg6⟩; have HG6 := Lib.hid (grown_trans HG5.out hg6); clear hg6))
      | (go_at_call 37; ((with_reducible refine (HF.out _ _ _).mono ?_); rintro e w7 ⟨rfl, rfl⟩)))
  obtain ⟨_, c0, c1, c2, c3, c4⟩ := HK.out _ HG6.out
  go_wp2_with fail
  go_step3
  refine ⟨rfl, ?_⟩
  go_wp2
  rw [jump_ret]
  go_ret
  exact ⟨rfl, grown_trans HG3.out HG6.out⟩
set_option maxHeartbeats 4000000 in
theorem goes_15_1 (x : List Int) (hx : x.length = 16) (p a b c n : Int) (w : World) (h0 : 0 ≤ p) (h1 : p ≤ 1024) (n0 : -2097152 ≤ n) (n1 : n ≤ 2097151) (hv : (val 15 (gt x a) (gt x b) == 0) = false) : Calls Tryd.prog 19 #[.agg (row x), .int .i64 p, .agg #[.int .u8 15, .int .i64 a, .int .i64 b, .int .i64 c, .int .i64 n]] w fun e w' => e = .returned (.int .i64 (p + 1 + n)) ∧ w.grownBy w' none := by
  obtain ⟨w3, hw3, hg3, hA3, hC3⟩ := boxes2 w x 15 a b c n
  have HW3 := Lib.hid hw3
  have HG3 := Lib.hid hg3
  have HK := Lib.hid (keepX hA3 hC3)
  have hix : ∀ w, (Instr.index 44 (.agg wks) (.int .u8 15)).run Tryd.prog w = .ok (.func (.func 28) #[] #[]) w := fun w => idxW 15 _ (by decide) rfl w
  have HGT : Hid (∀ n w, _) := Lib.hid fun n w => get_any x hx n w
  have HWK : Hid (∀ w, _) := Lib.hid fun w => works_row w
  have HF : Hid (∀ y z w, Calls Tryd.prog 28 #[.int .u32 y, .int .u32 z] w fun e w' => e = .returned (.int .u32 (val 15 y z)) ∧ w = w') := Lib.hid fun y z w => less_any y z w
  obtain ⟨t, nn, HT, hagg, hsize, hsz, hld, hst⟩ := namedR
  have hld := hld w.heap.size x hx
  clear hw3 hg3 hA3 hC3 hst hsz hx
  go_enter Tryd.func19, Tryd.ntmps19
  go_wp2
  refine wp_scope_tail 0 rfl ?_
  rw [HW3.out]
  obtain ⟨_, c0, c1, c2, c3, c4⟩ := HK.out _ (grown_refl _ _)
  go_upto_region 6 with fail
  clear c0 c1 c2 c3 c4
  go_region_held3 (fun w' => w'.rangeAt w.heap.size 0 (rl x) ∧ w'.cell? ⟨w.heap.size + 1, 0, none⟩ = some (.int .u8 15) ∧ w'.cell? ⟨w.heap.size + 1, 1, none⟩ = some (.int .i64 a) ∧ w'.cell? ⟨w.heap.size + 1, 2, none⟩ = some (.int .i64 b) ∧ w'.cell? ⟨w.heap.size + 1, 3, none⟩ = some (.int .i64 c) ∧ w'.cell? ⟨w.heap.size + 1, 4, none⟩ = some (.int .i64 n))
    (first | (with_reducible exact HK.out _ (grown_refl _ _)) | (with_reducible exact HK.out _ (grown_drew (grown_refl _ _))) | (with_reducible exact HK.out _ HG4.out))
    (first | (go_at_call 23; ((with_reducible refine (HWK.out _).mono ?_); rintro e w4 ⟨rfl, hg4⟩; have HG4 := Lib.hid (grown_trans (grown_drew (grown_refl w3 none)) hg4); clear hg4)))
  have HG4' := Lib.hid (grown_drew HG4.out)
  go_upto_region 7 with fail
  rw [HT.out.1]
  go_region_held3 (fun w' => w'.rangeAt w.heap.size 0 (rl x) ∧ w'.cell? ⟨w.heap.size + 1, 0, none⟩ = some (.int .u8 15) ∧ w'.cell? ⟨w.heap.size + 1, 1, none⟩ = some (.int .i64 a) ∧ w'.cell? ⟨w.heap.size + 1, 2, none⟩ = some (.int .i64 b) ∧ w'.cell? ⟨w.heap.size + 1, 3, none⟩ = some (.int .i64 c) ∧ w'.cell? ⟨w.heap.size + 1, 4, none⟩ = some (.int .i64 n))
    (first | (with_reducible exact HK.out _ HG4'.out) | (with_reducible exact HK.out _ HG4.out) | (with_reducible exact HK.out _ HG5.out) | (with_reducible exact HK.out _ HG6.out))
    (first
      | (go_at_call 15; ((with_reducible refine (HGT.out _ _).mono ?_); rintro e w5 ⟨rfl, hg5⟩; have HG5 := Lib.hid (grown_trans HG4'.out hg5); clear hg5))
      | (go_at_call 15; ((with_reducible refine (HGT.out _ _).mono ?_); rintro e w6 ⟨rfl, hg6⟩; have HG6 := Lib.hid (grown_trans HG5.out hg6); clear hg6))
      | (go_at_call 28; ((with_reducible refine (HF.out _ _ _).mono ?_); rintro e w7 ⟨rfl, rfl⟩)))
  obtain ⟨_, c0, c1, c2, c3, c4⟩ := HK.out _ HG6.out
  go_wp2_with fail
  go_step3
  go_wp2
  rw [jump_ret]
  go_ret
  exact ⟨rfl, grown_trans HG3.out HG6.out⟩
set_option maxHeartbeats 4000000 in
theorem goes_15_0 (x : List Int) (hx : x.length = 16) (p a b c n : Int) (w : World) (h0 : 0 ≤ p) (h1 : p ≤ 1024) (n0 : -2097152 ≤ n) (n1 : n ≤ 2097151) (hv : (val 15 (gt x a) (gt x b) == 0) = true) : Calls Tryd.prog 19 #[.agg (row x), .int .i64 p, .agg #[.int .u8 15, .int .i64 a, .int .i64 b, .int .i64 c, .int .i64 n]] w fun e w' => e = .returned (.int .i64 (p + 1)) ∧ w.grownBy w' none := by
  obtain ⟨w3, hw3, hg3, hA3, hC3⟩ := boxes2 w x 15 a b c n
  have HW3 := Lib.hid hw3
  have HG3 := Lib.hid hg3
  have HK := Lib.hid (keepX hA3 hC3)
  have hix : ∀ w, (Instr.index 44 (.agg wks) (.int .u8 15)).run Tryd.prog w = .ok (.func (.func 28) #[] #[]) w := fun w => idxW 15 _ (by decide) rfl w
  have HGT : Hid (∀ n w, _) := Lib.hid fun n w => get_any x hx n w
  have HWK : Hid (∀ w, _) := Lib.hid fun w => works_row w
  have HF : Hid (∀ y z w, Calls Tryd.prog 28 #[.int .u32 y, .int .u32 z] w fun e w' => e = .returned (.int .u32 (val 15 y z)) ∧ w = w') := Lib.hid fun y z w => less_any y z w
  obtain ⟨t, nn, HT, hagg, hsize, hsz, hld, hst⟩ := namedR
  have hld := hld w.heap.size x hx
  clear hw3 hg3 hA3 hC3 hst hsz hx
  go_enter Tryd.func19, Tryd.ntmps19
  go_wp2
  refine wp_scope_tail 0 rfl ?_
  rw [HW3.out]
  obtain ⟨_, c0, c1, c2, c3, c4⟩ := HK.out _ (grown_refl _ _)
  go_upto_region 6 with fail
  clear c0 c1 c2 c3 c4
  go_region_held3 (fun w' => w'.rangeAt w.heap.size 0 (rl x) ∧ w'.cell? ⟨w.heap.size + 1, 0, none⟩ = some (.int .u8 15) ∧ w'.cell? ⟨w.heap.size + 1, 1, none⟩ = some (.int .i64 a) ∧ w'.cell? ⟨w.heap.size + 1, 2, none⟩ = some (.int .i64 b) ∧ w'.cell? ⟨w.heap.size + 1, 3, none⟩ = some (.int .i64 c) ∧ w'.cell? ⟨w.heap.size + 1, 4, none⟩ = some (.int .i64 n))
    (first | (with_reducible exact HK.out _ (grown_refl _ _)) | (with_reducible exact HK.out _ (grown_drew (grown_refl _ _))) | (with_reducible exact HK.out _ HG4.out))
    (first | (go_at_call 23; ((with_reducible refine (HWK.out _).mono ?_); rintro e w4 ⟨rfl, hg4⟩; have HG4 := Lib.hid (grown_trans (grown_drew (grown_refl w3 none)) hg4); clear hg4)))
  have HG4' := Lib.hid (grown_drew HG4.out)
  go_upto_region 7 with fail
  rw [HT.out.1]
  go_region_held3 (fun w' => w'.rangeAt w.heap.size 0 (rl x) ∧ w'.cell? ⟨w.heap.size + 1, 0, none⟩ = some (.int .u8 15) ∧ w'.cell? ⟨w.heap.size + 1, 1, none⟩ = some (.int .i64 a) ∧ w'.cell? ⟨w.heap.size + 1, 2, none⟩ = some (.int .i64 b) ∧ w'.cell? ⟨w.heap.size + 1, 3, none⟩ = some (.int .i64 c) ∧ w'.cell? ⟨w.heap.size + 1, 4, none⟩ = some (.int .i64 n))
    (first | (with_reducible exact HK.out _ HG4'.out) | (with_reducible exact HK.out _ HG4.out) | (with_reducible exact HK.out _ HG5.out) | (with_reducible exact HK.out _ HG6.out))
    (first
      | (go_at_call 15; ((with_reducible refine (HGT.out _ _).mono ?_); rintro e w5 ⟨rfl, hg5⟩; have HG5 := Lib.hid (grown_trans HG4'.out hg5); clear hg5))
      | (go_at_call 15; ((with_reducible refine (HGT.out _ _).mono ?_); rintro e w6 ⟨rfl, hg6⟩; have HG6 := Lib.hid (grown_trans HG5.out hg6); clear hg6))
      | (go_at_call 28; ((with_reducible refine (HF.out _ _ _).mono ?_); rintro e w7 ⟨rfl, rfl⟩)))
  obtain ⟨_, c0, c1, c2, c3, c4⟩ := HK.out _ HG6.out
  go_wp2_with fail
  go_step3
  refine ⟨rfl, ?_⟩
  go_wp2
  rw [jump_ret]
  go_ret
  exact ⟨rfl, grown_trans HG3.out HG6.out⟩
theorem goes_16 (x : List Int) (p a b c n : Int) (w : World) (h0 : 0 ≤ p) (h1 : p ≤ 1024) (n0 : -2097152 ≤ n) (n1 : n ≤ 2097151) : Calls Tryd.prog 19 #[.agg (row x), .int .i64 p, .agg #[.int .u8 16, .int .i64 a, .int .i64 b, .int .i64 c, .int .i64 n]] w fun e w' => e = .returned (.int .i64 (p + 1 + n)) ∧ w.grownBy w' none := by
  obtain ⟨w3, hw3, hg3, hA3, hC3⟩ := boxes2 w x 16 a b c n
  have HW3 := Lib.hid hw3
  have HG3 := Lib.hid hg3
  obtain ⟨_, c0, c1, c2, c3, c4⟩ := keepX hA3 hC3 _ (grown_refl _ _)
  clear hw3 hg3 hA3 hC3
  go_enter Tryd.func19, Tryd.ntmps19
  go_wp2
  refine wp_scope_tail 0 rfl ?_
  rw [HW3.out]
  go_wp2
  go_step3
  go_wp2
  rw [jump_ret]
  go_ret
  exact ⟨rfl, HG3.out⟩
theorem goes_other (x : List Int) (o : Nat) (p a b c n : Int) (w : World) (h0 : 0 ≤ p) (h1 : p ≤ 1024) (k1 : ¬ (13 ≤ o ∧ o ≤ 15)) (k2 : ¬ o = 16) : Calls Tryd.prog 19 #[.agg (row x), .int .i64 p, .agg #[.int .u8 (o : Int), .int .i64 a, .int .i64 b, .int .i64 c, .int .i64 n]] w fun e w' => e = .returned (.int .i64 (p + 1)) ∧ w.grownBy w' none := by
  obtain ⟨w3, hw3, hg3, hA3, hC3⟩ := boxes2 w x (o : Int) a b c n
  have HW3 := Lib.hid hw3
  have HG3 := Lib.hid hg3
  obtain ⟨_, c0, c1, c2, c3, c4⟩ := keepX hA3 hC3 _ (grown_refl _ _)
  have e13 : ((o : Int) == 13) = false := beq_eq_false_iff_ne.2 (by omega)
  have e14 : ((o : Int) == 14) = false := beq_eq_false_iff_ne.2 (by omega)
  have e15 : ((o : Int) == 15) = false := beq_eq_false_iff_ne.2 (by omega)
  have e16 : ((o : Int) == 16) = false := beq_eq_false_iff_ne.2 (by omega)
  clear hw3 hg3 hA3 hC3 k1 k2
  go_enter Tryd.func19, Tryd.ntmps19
  go_wp2
  refine wp_scope_tail 0 rfl ?_
  rw [HW3.out]
  go_wp2
  go_step3
  refine ⟨rfl, ?_⟩
  go_wp2
  rw [jump_ret]
  go_ret
  exact ⟨rfl, HG3.out⟩
theorem goesOn_any (x : List Int) (hx : x.length = 16) (p : Int) (c : Cd) (w : World) (h0 : 0 ≤ p) (h1 : p ≤ 1024) (n0 : -2097152 ≤ c.n) (n1 : c.n ≤ 2097151) : Calls Tryd.prog 19 #[.agg (row x), .int .i64 p, .agg (ca c)] w fun e w' => e = .returned (.int .i64 (goes x p c)) ∧ w.grownBy w' none := by
  obtain ⟨op, a, b, c, n⟩ := c
  simp only at n0 n1
  unfold ca
  by_cases hb : 13 ≤ op ∧ op ≤ 15
  · by_cases hv : val op (gt x a) (gt x b) = 0
    · rw [show goes x p ⟨op, a, b, c, n⟩ = p + 1 from if_neg (fun h => h.elim (fun h => h.2 hv) (fun h => by simp only at h; omega))]
      have hv := beq_iff_eq.2 hv
      obtain rfl | rfl | rfl : op = 13 ∨ op = 14 ∨ op = 15 := by omega
      · exact goes_13_0 x hx p a b c n w h0 h1 n0 n1 hv
      · exact goes_14_0 x hx p a b c n w h0 h1 n0 n1 hv
      · exact goes_15_0 x hx p a b c n w h0 h1 n0 n1 hv
    · rw [show goes x p ⟨op, a, b, c, n⟩ = p + 1 + n from if_pos (.inl ⟨hb, hv⟩)]
      have hv := beq_eq_false_iff_ne.2 hv
      obtain rfl | rfl | rfl : op = 13 ∨ op = 14 ∨ op = 15 := by omega
      · exact goes_13_1 x hx p a b c n w h0 h1 n0 n1 hv
      · exact goes_14_1 x hx p a b c n w h0 h1 n0 n1 hv
      · exact goes_15_1 x hx p a b c n w h0 h1 n0 n1 hv
  · by_cases h16 : op = 16
    · rw [show goes x p ⟨op, a, b, c, n⟩ = p + 1 + n from if_pos (.inr h16)]
      subst h16
      exact goes_16 x p a b c n w h0 h1 n0 n1
    · rw [show goes x p ⟨op, a, b, c, n⟩ = p + 1 from if_neg (fun h => h.elim (fun h => hb h.1) h16)]
      exact goes_other x op p a b c n w h0 h1 hb h16
end Go.Proofs.YtmfckkioccmblaaDoor.sg
