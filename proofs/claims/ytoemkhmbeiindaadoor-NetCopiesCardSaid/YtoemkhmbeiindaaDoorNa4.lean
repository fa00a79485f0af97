/-
  What May answers: contract. Condition: the table of kinds lies in its variable as the program's text has it.
-/
import Derived.Test.YtoemkhmbeiindaaDoorNa3
namespace Go.Proofs.YtoemkhmbeiindaaDoor.tt
open Go Go.ChangeShapes Go.WideShapes Go.ChangeAt Go.RowKit
set_option linter.unusedVariables false

/-- The table. -/
def kinds : List Int := [0, 3, 3, 25, 2, 2, 20, 2, 0, 33, 3, 1]
def TabK (w : World) : Prop := ∀ k : Nat, k < 12 → w.cell? ⟨1, k, none⟩ = some (.int .u8 (kinds.getD k 0))
theorem TabK.grown {w w' : World} (h : TabK w) (hg : w.grownBy w' none) : TabK w' := fun k hk => hg.cell (h k hk) (by simp)
theorem kinds_uses (m : Nat) (h1 : 1 ≤ m) (h2 : m ≤ 11) : kinds.getD m 0 = uses (m : Int) := by
  have : ∀ m, m < 12 → 1 ≤ m → kinds.getD m 0 = uses (m : Int) := by decide
  exact this m (by omega) h1

/-- A note that may be. -/
def Nt.ok (n : Nt) : Prop := (1 ≤ n.k ∧ n.k ≤ 11) ∧ (0 ≤ n.b ∧ n.b < 256) ∧ n = usd (uses n.k) n ∧ (0 ≤ coreOf (uses n.k) n ∧ coreOf (uses n.k) n < 16) ∧ (uses n.k = 20 → 1 ≤ n.s ∧ n.s ≤ 3)
instance (n : Nt) : Decidable n.ok := by unfold Nt.ok; infer_instance
theorem nt_next {wz wx wy : World} {B : Nat} {n : Nt} (h : wx.rangeAt B 0 (nt n) ∧ wz.grownBy wx none) (k : wx.grownBy wy none) : wy.rangeAt B 0 (nt n) ∧ wz.grownBy wy none :=
  ⟨range_grown h.1 k (by simp), grown_trans h.2 k⟩
theorem nt_draw {wz wx : World} {B : Nat} {n : Nt} (h : wx.rangeAt B 0 (nt n) ∧ wz.grownBy wx none) : wx.drew.rangeAt B 0 (nt n) ∧ wz.grownBy wx.drew none := ⟨h.1, grown_drew h.2⟩

theorem keep2 {wz wx wy : World} {p : World → Prop} (H : Hid (∀ w', wz.grownBy w' none → p w')) (h : p wx ∧ wz.grownBy wx none) (k : wx.grownBy wy none) : p wy ∧ wz.grownBy wy none :=
  ⟨H.out _ (grown_trans h.2 k), grown_trans h.2 k⟩
section
variable (n : Nt) (w : World)
theorem may_kind (h : ¬ (1 ≤ n.k ∧ n.k ≤ 11)) : Calls Tryd.prog 53 #[.agg (na n)] w fun e w' => e = .returned (.int .i64 2) ∧ w.grownBy w' none := by
  have HK := Lib.hid (isKind_any n.k)
  rw [decide_eq_false h] at HK
  have c0 := box w n 0 _ rfl
  have hg := Lib.hid (grown_alloc (grown_refl w none) (.cells (na n) 37))
  clear h
  go_enter Tryd.func53, Tryd.ntmps53
  go_wp2_with (go_at_call 50; ((with_reducible refine (HK.out _).mono ?_); rintro e w1 ⟨rfl, rfl⟩))
  go_ret
  exact ⟨rfl, hg.out⟩
theorem may_block (hk : 1 ≤ n.k ∧ n.k ≤ 11) (h : ¬ (0 ≤ n.b ∧ n.b < 256)) : Calls Tryd.prog 53 #[.agg (na n)] w fun e w' => e = .returned (.int .i64 2) ∧ w.grownBy w' none := by
  have HK := Lib.hid (isKind_any n.k)
  rw [decide_eq_true hk] at HK
  have c0 := box w n 0 _ rfl
  have c3 := box w n 3 _ rfl
  have hg := Lib.hid (grown_alloc (grown_refl w none) (.cells (na n) 37))
  by_cases h0 : n.b < 0
  · clear h hk
    go_enter Tryd.func53, Tryd.ntmps53
    go_wp2_with (go_at_call 50; ((with_reducible refine (HK.out _).mono ?_); rintro e w1 ⟨rfl, rfl⟩))
    go_ret
    exact ⟨rfl, hg.out⟩
  · have h1 : 256 ≤ n.b := by omega
    clear h hk
    go_enter Tryd.func53, Tryd.ntmps53
    go_wp2_with (go_at_call 50; ((with_reducible refine (HK.out _).mono ?_); rintro e w1 ⟨rfl, rfl⟩))
    go_ret
    exact ⟨rfl, hg.out⟩

variable (hT : TabK w) (m : Nat) (hm : n.k = (m : Int)) (h1 : 1 ≤ m) (h2 : m ≤ 11) (hb : 0 ≤ n.b ∧ n.b < 256)
include hT hm h1 h2 hb
theorem may_used (h : ¬ n = usd (uses n.k) n) : Calls Tryd.prog 53 #[.agg (na n)] w fun e w' => e = .returned (.int .i64 2) ∧ w.grownBy w' none := by
  have HK := Lib.hid (isKind_any n.k)
  rw [decide_eq_true (show 1 ≤ n.k ∧ n.k ≤ 11 by omega)] at HK
  have hg := grown_alloc (grown_refl w none) (.cells (na n) 37)
  have ct := hT.grown hg m (by omega)
  rw [kinds_uses m h1 h2, ← hm] at ct
  have HU := Lib.hid (used_any (uses n.k) (uses7 _) n)
  have HC := Lib.hid (coreOf_any (uses n.k) (uses7 _) n)
  have HD := Lib.hid (isCore_any (coreOf (uses n.k) n))
  have c0 := box w n 0 _ rfl
  have c3 := box w n 3 _ rfl
  have hq : ∀ w, (binOp .neq 37 (.agg (na n)) (.agg (na (usd (uses n.k) n)))).run Tryd.prog w = .ok (.bool true) w := fun w => by rw [q31n, decide_eq_false h]; rfl
  clear h HC HD
  have HC : True := trivial
  have HD : True := trivial
  generalize usd (uses n.k) n = x at *
  generalize uses n.k = u at *
  rw [hm] at c0 HK
  have HG := Lib.hid hg
  obtain ⟨hb1, hb2⟩ := hb
  clear hT hm hg
  obtain ⟨t, mm, HTT, hagg, hsize, hld⟩ := named
  have HL : Hid (∀ w', (w.alloc (.cells (na n) 37)).grownBy w' none → (loadCellsFrom ⟨w.heap.size, 0, none⟩ 0 mm #[]).run Tryd.prog w' = .ok (na n) w') := Lib.hid fun w' h => hld _ _ _ (range_grown (range_of (heap_alloc_new _ _)) h (by simp))
  have HG0 : Hid ((w.alloc (.cells (na n) 37)).grownBy (w.alloc (.cells (na n) 37)) none) := Lib.hid (grown_refl _ _)
  clear hld
  go_enter Tryd.func53, Tryd.ntmps53
  go_wp2_with (go_at_call 50; ((with_reducible refine (HK.out _).mono ?_); rintro e w1 ⟨rfl, rfl⟩))
  rw [HTT.out]
  refine wp_region_held_drew (S := fun w' => (loadCellsFrom ⟨w.heap.size, 0, none⟩ 0 mm #[]).run Tryd.prog w' = .ok (na n) w' ∧ (w.alloc (.cells (na n) 37)).grownBy w' none) (by kernel_rfl) ⟨HL.out _ (grown_drew HG0.out), grown_drew HG0.out⟩ (fun hHeld => ?_)
  refine wpAnyH_take (i := 0) (oi := ⟨some 22, Op.load t (Operand.tmp 1), _, _, _, _⟩) (v := ?v1) rfl (by kernel_rfl) (by kernel_rfl) (by kernel_rfl) (fun _ _ _ h => h) (Or.inl ⟨by rfl, ?hy1⟩) (by assumption) ?rest1
  case hy1 => ((intro w0 hSw; (try dsimp only at hSw); obtain ⟨hs1, hs2⟩ := hSw; go_simp); try (with_reducible rfl))
  try simp only [Act.put, List.setIfInBounds_toArray, List.set_cons_zero, List.set_cons_succ]
  refine wpAnyH_take (i := 1) (oi := ⟨some 23, Op.load t (Operand.tmp 1), _, _, _, _⟩) (v := ?v2) rfl (by kernel_rfl) (by kernel_rfl) (by kernel_rfl) (fun _ _ _ h => h) (Or.inl ⟨by rfl, ?hy2⟩) (by assumption) ?rest2
  case hy2 => ((intro w0 hSw; (try dsimp only at hSw); obtain ⟨hs1, hs2⟩ := hSw; go_simp); try (with_reducible rfl))
  try simp only [Act.put, List.setIfInBounds_toArray, List.set_cons_zero, List.set_cons_succ]
  refine wpAnyH_take (i := 2) (oi := ⟨some 24, Op.move (Operand.tmp 3), _, _, _, _⟩) (v := ?v3) rfl (by kernel_rfl) (by kernel_rfl) (by kernel_rfl) (fun _ _ _ h => h) (Or.inl ⟨by rfl, ?hy3⟩) (by assumption) ?rest3
  case hy3 => ((intro w0 hSw; (try dsimp only at hSw); obtain ⟨hs1, hs2⟩ := hSw; go_simp); try (with_reducible rfl))
  try simp only [Act.put, List.setIfInBounds_toArray, List.set_cons_zero, List.set_cons_succ]
  refine wpAnyH_ready (rs := [3]) (by kernel_rfl) (by simp) ?_
  refine AllReadyH.cons (o := ⟨some 25, Op.call { callee := Callee.value (Operand.func 66), args := #[(Operand.tmp 23), (Operand.tmp 24)], argTypes := #[37, 108] }, _, _, _, _⟩) rfl (fun K hK => ?_) ?_
  · go_simp
    (with_reducible refine (HU.out _).mono ?_); rintro e w9 ⟨rfl, hg9⟩
    have hh := grown_trans (grown_drew HG0.out) hg9
    go_wp2_with fail
    refine hK.out _ _ ⟨HL.out _ hh, hh⟩ (fun hHeld => ?_)
    clear hK K
    try simp only [Act.put, List.setIfInBounds_toArray, List.set_cons_zero, List.set_cons_succ]
    refine wpAnyH_take (i := 4) (oi := ⟨some 26, Op.binOp BinOp.neq 37 (Operand.tmp 22) (Operand.tmp 25) 37, _, _, _, _⟩) (v := ?v4) rfl (by kernel_rfl) (by kernel_rfl) (by kernel_rfl) (fun _ _ _ h => h) (Or.inl ⟨by rfl, ?hy4⟩) (by assumption) ?rest4
    case hy4 => ((intro w0 hSw; (try dsimp only at hSw); obtain ⟨hs1, hs2⟩ := hSw; go_simp); try (with_reducible rfl))
    try simp only [Act.put, List.setIfInBounds_toArray, List.set_cons_zero, List.set_cons_succ]
    refine wpAnyH_take (i := 5) (oi := ⟨some 27, Op.move (Operand.tmp 26), _, _, _, _⟩) (v := ?v5) rfl (by kernel_rfl) (by kernel_rfl) (by kernel_rfl) (fun _ _ _ h => h) (Or.inl ⟨by rfl, ?hy5⟩) (by assumption) ?rest5
    case hy5 => ((intro w0 hSw; (try dsimp only at hSw); obtain ⟨hs1, hs2⟩ := hSw; go_simp); try (with_reducible rfl))
    try simp only [Act.put, List.setIfInBounds_toArray, List.set_cons_zero, List.set_cons_succ]
    refine wpAnyH_ready (rs := [6, 7]) (by kernel_rfl) (by simp) ?_
    refine AllReadyH.cons (o := ⟨some 28, Op.load t (Operand.tmp 1), _, _, _, _⟩) rfl (fun K hK => ?_) ?_
    · go_simp
      refine hK.out _ _ (by assumption) (fun hHeld2 => ?_)
      clear hK K
      try simp only [Act.put, List.setIfInBounds_toArray, List.set_cons_zero, List.set_cons_succ]
      refine wpAnyH_ready (rs := [7]) (by kernel_rfl) (by simp) ?_
      refine AllReadyH.cons (o := ⟨some 29, Op.move (Operand.tmp 3), _, _, _, _⟩) rfl (fun K hK => ?_) ?_
      · go_simp
        refine hK.out _ _ (by assumption) (fun hHeld2 => ?_)
        clear hK K
        try simp only [Act.put, List.setIfInBounds_toArray, List.set_cons_zero, List.set_cons_succ]
        refine wpAnyH_ready (rs := [8]) (by kernel_rfl) (by simp) ?_
        refine AllReadyH.cons (o := ⟨some 30, Op.call { callee := Callee.value (Operand.func 68), args := #[(Operand.tmp 28), (Operand.tmp 29)], argTypes := #[37, 108] }, _, _, _, _⟩) rfl (fun K hK => ?_) ?_
        · go_simp
          refine hK.out _ _ (by assumption) (fun hHeld2 => ?_)
          clear hK K
          try simp only [Act.put, List.setIfInBounds_toArray, List.set_cons_zero, List.set_cons_succ]
          refine wpAnyH_ready (rs := [9]) (by kernel_rfl) (by simp) ?_
          refine AllReadyH.cons (o := ⟨some 31, Op.call { callee := Callee.value (Operand.func 67), args := #[(Operand.tmp 30)], argTypes := #[3] }, _, _, _, _⟩) rfl (fun K hK => ?_) ?_
          · go_simp
            refine hK.out _ _ (by assumption) (fun hHeld2 => ?_)
            clear hK K
            try simp only [Act.put, List.setIfInBounds_toArray, List.set_cons_zero, List.set_cons_succ]
            refine wpAnyH_ready (rs := [10]) (by kernel_rfl) (by simp) ?_
            refine AllReadyH.cons (o := ⟨some 32, Op.unOp UnOp.not 4 (Operand.tmp 31), _, _, _, _⟩) rfl (fun K hK => ?_) ?_
            · go_simp
              refine hK.out _ _ (by assumption) (fun hHeld2 => ?_)
              clear hK K
              try simp only [Act.put, List.setIfInBounds_toArray, List.set_cons_zero, List.set_cons_succ]
              refine wpAnyH_take (i := 11) (oi := ⟨some 33, Op.pick (Operand.tmp 27) (Operand.const (Value.bool true)) (Operand.tmp 32), _, _, _, _⟩) (v := ?v6) rfl (by kernel_rfl) (by kernel_rfl) (by kernel_rfl) (fun _ _ _ h => h) (Or.inl ⟨by rfl, ?hy6⟩) (by assumption) ?rest6
              case hy6 => ((intro w0 hSw; (try dsimp only at hSw); obtain ⟨hs1, hs2⟩ := hSw; go_simp); try (with_reducible rfl))
              try simp only [Act.put, List.setIfInBounds_toArray, List.set_cons_zero, List.set_cons_succ]
              refine wpAnyH_done (by kernel_rfl) ?_ _
              go_wp2
              go_ret
              exact ⟨rfl, grown_trans HG.out hh⟩
            exact AllReadyH.nil
          exact AllReadyH.nil
        exact AllReadyH.nil
      exact AllReadyH.nil
    refine AllReadyH.cons (o := ⟨some 29, Op.move (Operand.tmp 3), _, _, _, _⟩) rfl (fun K hK => ?_) ?_
    · go_simp
      refine hK.out _ _ (by assumption) (fun hHeld2 => ?_)
      clear hK K
      try simp only [Act.put, List.setIfInBounds_toArray, List.set_cons_zero, List.set_cons_succ]
      refine wpAnyH_ready (rs := [6]) (by kernel_rfl) (by simp) ?_
      refine AllReadyH.cons (o := ⟨some 28, Op.load t (Operand.tmp 1), _, _, _, _⟩) rfl (fun K hK => ?_) ?_
      · go_simp
        refine hK.out _ _ (by assumption) (fun hHeld2 => ?_)
        clear hK K
        try simp only [Act.put, List.setIfInBounds_toArray, List.set_cons_zero, List.set_cons_succ]
        refine wpAnyH_ready (rs := [8]) (by kernel_rfl) (by simp) ?_
        refine AllReadyH.cons (o := ⟨some 30, Op.call { callee := Callee.value (Operand.func 68), args := #[(Operand.tmp 28), (Operand.tmp 29)], argTypes := #[37, 108] }, _, _, _, _⟩) rfl (fun K hK => ?_) ?_
        · go_simp
          refine hK.out _ _ (by assumption) (fun hHeld2 => ?_)
          clear hK K
          try simp only [Act.put, List.setIfInBounds_toArray, List.set_cons_zero, List.set_cons_succ]
          refine wpAnyH_ready (rs := [9]) (by kernel_rfl) (by simp) ?_
          refine AllReadyH.cons (o := ⟨some 31, Op.call { callee := Callee.value (Operand.func 67), args := #[(Operand.tmp 30)], argTypes := #[3] }, _, _, _, _⟩) rfl (fun K hK => ?_) ?_
          · go_simp
            refine hK.out _ _ (by assumption) (fun hHeld2 => ?_)
            clear hK K
            try simp only [Act.put, List.setIfInBounds_toArray, List.set_cons_zero, List.set_cons_succ]
            refine wpAnyH_ready (rs := [10]) (by kernel_rfl) (by simp) ?_
            refine AllReadyH.cons (o := ⟨some 32, Op.unOp UnOp.not 4 (Operand.tmp 31), _, _, _, _⟩) rfl (fun K hK => ?_) ?_
            · go_simp
              refine hK.out _ _ (by assumption) (fun hHeld2 => ?_)
              clear hK K
              try simp only [Act.put, List.setIfInBounds_toArray, List.set_cons_zero, List.set_cons_succ]
              refine wpAnyH_take (i := 11) (oi := ⟨some 33, Op.pick (Operand.tmp 27) (Operand.const (Value.bool true)) (Operand.tmp 32), _, _, _, _⟩) (v := ?v7) rfl (by kernel_rfl) (by kernel_rfl) (by kernel_rfl) (fun _ _ _ h => h) (Or.inl ⟨by rfl, ?hy7⟩) (by assumption) ?rest7
              case hy7 => ((intro w0 hSw; (try dsimp only at hSw); obtain ⟨hs1, hs2⟩ := hSw; go_simp); try (with_reducible rfl))
              try simp only [Act.put, List.setIfInBounds_toArray, List.set_cons_zero, List.set_cons_succ]
              refine wpAnyH_done (by kernel_rfl) ?_ _
              go_wp2
              go_ret
              exact ⟨rfl, grown_trans HG.out hh⟩
            exact AllReadyH.nil
          exact AllReadyH.nil
        exact AllReadyH.nil
      exact AllReadyH.nil
    exact AllReadyH.nil
  exact AllReadyH.nil
theorem may_core (h : n = usd (uses n.k) n) (h3 : ¬ (0 ≤ coreOf (uses n.k) n ∧ coreOf (uses n.k) n < 16)) : Calls Tryd.prog 53 #[.agg (na n)] w fun e w' => e = .returned (.int .i64 2) ∧ w.grownBy w' none := by
  have HK := Lib.hid (isKind_any n.k)
  rw [decide_eq_true (show 1 ≤ n.k ∧ n.k ≤ 11 by omega)] at HK
  have hg := grown_alloc (grown_refl w none) (.cells (na n) 37)
  have ct := hT.grown hg m (by omega)
  rw [kinds_uses m h1 h2, ← hm] at ct
  have HU := Lib.hid (used_any (uses n.k) (uses7 _) n)
  have HC := Lib.hid (coreOf_any (uses n.k) (uses7 _) n)
  have HD := Lib.hid (isCore_any (coreOf (uses n.k) n))
  have c0 := box w n 0 _ rfl
  have c3 := box w n 3 _ rfl
  have hq : ∀ w, (binOp .neq 37 (.agg (na n)) (.agg (na n))).run Tryd.prog w = .ok (.bool false) w := fun w => by rw [q31n, decide_eq_true rfl]; rfl
  rw [← h] at HU
  rw [decide_eq_false h3] at HD
  clear h h3
  generalize coreOf (uses n.k) n = x at *
  generalize uses n.k = u at *
  rw [hm] at c0 HK
  have HG := Lib.hid hg
  obtain ⟨hb1, hb2⟩ := hb
  clear hT hm hg
  obtain ⟨t, mm, HTT, hagg, hsize, hld⟩ := named
  have HL : Hid (∀ w', (w.alloc (.cells (na n) 37)).grownBy w' none → (loadCellsFrom ⟨w.heap.size, 0, none⟩ 0 mm #[]).run Tryd.prog w' = .ok (na n) w') := Lib.hid fun w' h => hld _ _ _ (range_grown (range_of (heap_alloc_new _ _)) h (by simp))
  have HG0 : Hid ((w.alloc (.cells (na n) 37)).grownBy (w.alloc (.cells (na n) 37)) none) := Lib.hid (grown_refl _ _)
  clear hld
  go_enter Tryd.func53, Tryd.ntmps53
  go_wp2_with (go_at_call 50; ((with_reducible refine (HK.out _).mono ?_); rintro e w1 ⟨rfl, rfl⟩))
  rw [HTT.out]
  first
  | (go_region_held3 (fun w' => (loadCellsFrom ⟨w.heap.size, 0, none⟩ 0 mm #[]).run Tryd.prog w' = .ok (na n) w' ∧ (w.alloc (.cells (na n) 37)).grownBy w' none) (first | exact ⟨HL.out _ HG0.out, HG0.out⟩ | exact ⟨HL.out _ (grown_drew HG0.out), grown_drew HG0.out⟩ | assumption | exact keep2 HL (by assumption) (by assumption) | exact keep2 HL (by assumption) (grown_drew (grown_refl _ _))) (first
      | (go_at_call 66; ((refine (HU.out _).mono ?_); rintro e w9 ⟨rfl, hg9⟩))
      | (go_at_call 68; ((refine (HC.out _).mono ?_); rintro e w10 ⟨rfl, hg10⟩))
      | (go_at_call 67; ((refine (HD.out _).mono ?_); rintro e w11 ⟨rfl, rfl⟩))))
  | fail
  all_goals (go_wp2; go_ret; exact ⟨rfl, grown_trans HG.out (And.right (by assumption))⟩)
theorem may_plain (h : n = usd (uses n.k) n) (h3 : 0 ≤ coreOf (uses n.k) n ∧ coreOf (uses n.k) n < 16) (h4 : (!(bits .and .u8 (uses n.k) 4 == 0)) = false) : Calls Tryd.prog 53 #[.agg (na n)] w fun e w' => e = .returned (.int .i64 0) ∧ w.grownBy w' none := by
  have HK := Lib.hid (isKind_any n.k)
  rw [decide_eq_true (show 1 ≤ n.k ∧ n.k ≤ 11 by omega)] at HK
  have hg := grown_alloc (grown_refl w none) (.cells (na n) 37)
  have ct := hT.grown hg m (by omega)
  rw [kinds_uses m h1 h2, ← hm] at ct
  have HU := Lib.hid (used_any (uses n.k) (uses7 _) n)
  have HC := Lib.hid (coreOf_any (uses n.k) (uses7 _) n)
  have HD := Lib.hid (isCore_any (coreOf (uses n.k) n))
  have c0 := box w n 0 _ rfl
  have c3 := box w n 3 _ rfl
  have hq : ∀ w, (binOp .neq 37 (.agg (na n)) (.agg (na n))).run Tryd.prog w = .ok (.bool false) w := fun w => by rw [q31n, decide_eq_true rfl]; rfl
  have H4 := Lib.hid (inc (uses n.k) 4 _ h4)
  rw [← h] at HU
  rw [decide_eq_true h3] at HD
  clear h h3 h4
  generalize coreOf (uses n.k) n = x at *
  generalize uses n.k = u at *
  rw [hm] at c0 HK
  have HG := Lib.hid hg
  obtain ⟨hb1, hb2⟩ := hb
  clear hT hm hg
  obtain ⟨t, mm, HTT, hagg, hsize, hld⟩ := named
  have HL : Hid (∀ w', (w.alloc (.cells (na n) 37)).grownBy w' none → (loadCellsFrom ⟨w.heap.size, 0, none⟩ 0 mm #[]).run Tryd.prog w' = .ok (na n) w') := Lib.hid fun w' h => hld _ _ _ (range_grown (range_of (heap_alloc_new _ _)) h (by simp))
  have HG0 : Hid ((w.alloc (.cells (na n) 37)).grownBy (w.alloc (.cells (na n) 37)) none) := Lib.hid (grown_refl _ _)
  clear hld
  go_enter Tryd.func53, Tryd.ntmps53
  go_wp2_with (go_at_call 50; ((with_reducible refine (HK.out _).mono ?_); rintro e w1 ⟨rfl, rfl⟩))
  rw [HTT.out]
  first
  | (go_region_held3 (fun w' => (loadCellsFrom ⟨w.heap.size, 0, none⟩ 0 mm #[]).run Tryd.prog w' = .ok (na n) w' ∧ (w.alloc (.cells (na n) 37)).grownBy w' none) (first | exact ⟨HL.out _ HG0.out, HG0.out⟩ | exact ⟨HL.out _ (grown_drew HG0.out), grown_drew HG0.out⟩ | assumption | exact keep2 HL (by assumption) (by assumption) | exact keep2 HL (by assumption) (grown_drew (grown_refl _ _))) (first
      | (go_at_call 66; ((refine (HU.out _).mono ?_); rintro e w9 ⟨rfl, hg9⟩))
      | (go_at_call 68; ((refine (HC.out _).mono ?_); rintro e w10 ⟨rfl, hg10⟩))
      | (go_at_call 67; ((refine (HD.out _).mono ?_); rintro e w11 ⟨rfl, rfl⟩))))
  | fail
  all_goals
    (have HF := Lib.hid (And.right (by assumption : _ ∧ (w.alloc (.cells (na n) 37)).grownBy _ none))
     go_wp2_with (go_at_call 69; ((with_reducible refine (H4.out _).mono ?_); rintro e w12 ⟨rfl, rfl⟩))
     go_ret
     exact ⟨rfl, grown_trans HG.out HF.out⟩)
theorem may_state (h : n = usd (uses n.k) n) (h3 : 0 ≤ coreOf (uses n.k) n ∧ coreOf (uses n.k) n < 16) (h4 : (!(bits .and .u8 (uses n.k) 4 == 0)) = true) : Calls Tryd.prog 53 #[.agg (na n)] w fun e w' => e = .returned (.int .i64 (yes (1 ≤ n.s ∧ n.s ≤ 3))) ∧ w.grownBy w' none := by
  have HK := Lib.hid (isKind_any n.k)
  rw [decide_eq_true (show 1 ≤ n.k ∧ n.k ≤ 11 by omega)] at HK
  have hg := grown_alloc (grown_refl w none) (.cells (na n) 37)
  have ct := hT.grown hg m (by omega)
  rw [kinds_uses m h1 h2, ← hm] at ct
  have HU := Lib.hid (used_any (uses n.k) (uses7 _) n)
  have HC := Lib.hid (coreOf_any (uses n.k) (uses7 _) n)
  have HD := Lib.hid (isCore_any (coreOf (uses n.k) n))
  have c0 := box w n 0 _ rfl
  have c3 := box w n 3 _ rfl
  have hq : ∀ w, (binOp .neq 37 (.agg (na n)) (.agg (na n))).run Tryd.prog w = .ok (.bool false) w := fun w => by rw [q31n, decide_eq_true rfl]; rfl
  have H4 := Lib.hid (inc (uses n.k) 4 _ h4)
  have HS := Lib.hid (isState_any n.s)
  have c5 := box w n 5 _ rfl
  rw [← h] at HU
  rw [decide_eq_true h3] at HD
  clear h h3 h4
  generalize coreOf (uses n.k) n = x at *
  generalize uses n.k = u at *
  by_cases hs : 1 ≤ n.s ∧ n.s ≤ 3
  · rw [yes_of hs]
    rw [decide_eq_true hs] at HS
    clear hs
    rw [hm] at c0 HK
    have HG := Lib.hid hg
    obtain ⟨hb1, hb2⟩ := hb
    clear hT hm hg
    obtain ⟨t, mm, HTT, hagg, hsize, hld⟩ := named
    have HL : Hid (∀ w', (w.alloc (.cells (na n) 37)).grownBy w' none → (loadCellsFrom ⟨w.heap.size, 0, none⟩ 0 mm #[]).run Tryd.prog w' = .ok (na n) w') := Lib.hid fun w' h => hld _ _ _ (range_grown (range_of (heap_alloc_new _ _)) h (by simp))
    have HG0 : Hid ((w.alloc (.cells (na n) 37)).grownBy (w.alloc (.cells (na n) 37)) none) := Lib.hid (grown_refl _ _)
    clear hld
    go_enter Tryd.func53, Tryd.ntmps53
    go_wp2_with (go_at_call 50; ((with_reducible refine (HK.out _).mono ?_); rintro e w1 ⟨rfl, rfl⟩))
    rw [HTT.out]
    first
    | (go_region_held3 (fun w' => (loadCellsFrom ⟨w.heap.size, 0, none⟩ 0 mm #[]).run Tryd.prog w' = .ok (na n) w' ∧ (w.alloc (.cells (na n) 37)).grownBy w' none) (first | exact ⟨HL.out _ HG0.out, HG0.out⟩ | exact ⟨HL.out _ (grown_drew HG0.out), grown_drew HG0.out⟩ | assumption | exact keep2 HL (by assumption) (by assumption) | exact keep2 HL (by assumption) (grown_drew (grown_refl _ _))) (first
        | (go_at_call 66; ((refine (HU.out _).mono ?_); rintro e w9 ⟨rfl, hg9⟩))
        | (go_at_call 68; ((refine (HC.out _).mono ?_); rintro e w10 ⟨rfl, hg10⟩))
        | (go_at_call 67; ((refine (HD.out _).mono ?_); rintro e w11 ⟨rfl, rfl⟩))))
    | fail
    all_goals
      (have HF := Lib.hid (And.right (by assumption : _ ∧ (w.alloc (.cells (na n) 37)).grownBy _ none))
       have c5 := HF.out.cell c5 (by simp)
       go_wp2_with (first | (go_at_call 69; ((with_reducible refine (H4.out _).mono ?_); rintro e w12 ⟨rfl, rfl⟩)) | (go_at_call 70; ((with_reducible refine (HS.out _).mono ?_); rintro e w12 ⟨rfl, rfl⟩)))
       go_ret
       exact ⟨rfl, grown_trans HG.out HF.out⟩)
  · rw [yes_not hs]
    rw [decide_eq_false hs] at HS
    clear hs
    rw [hm] at c0 HK
    have HG := Lib.hid hg
    obtain ⟨hb1, hb2⟩ := hb
    clear hT hm hg
    obtain ⟨t, mm, HTT, hagg, hsize, hld⟩ := named
    have HL : Hid (∀ w', (w.alloc (.cells (na n) 37)).grownBy w' none → (loadCellsFrom ⟨w.heap.size, 0, none⟩ 0 mm #[]).run Tryd.prog w' = .ok (na n) w') := Lib.hid fun w' h => hld _ _ _ (range_grown (range_of (heap_alloc_new _ _)) h (by simp))
    have HG0 : Hid ((w.alloc (.cells (na n) 37)).grownBy (w.alloc (.cells (na n) 37)) none) := Lib.hid (grown_refl _ _)
    clear hld
    go_enter Tryd.func53, Tryd.ntmps53
    go_wp2_with (go_at_call 50; ((with_reducible refine (HK.out _).mono ?_); rintro e w1 ⟨rfl, rfl⟩))
    rw [HTT.out]
    first
    | (go_region_held3 (fun w' => (loadCellsFrom ⟨w.heap.size, 0, none⟩ 0 mm #[]).run Tryd.prog w' = .ok (na n) w' ∧ (w.alloc (.cells (na n) 37)).grownBy w' none) (first | exact ⟨HL.out _ HG0.out, HG0.out⟩ | exact ⟨HL.out _ (grown_drew HG0.out), grown_drew HG0.out⟩ | assumption | exact keep2 HL (by assumption) (by assumption) | exact keep2 HL (by assumption) (grown_drew (grown_refl _ _))) (first
        | (go_at_call 66; ((refine (HU.out _).mono ?_); rintro e w9 ⟨rfl, hg9⟩))
        | (go_at_call 68; ((refine (HC.out _).mono ?_); rintro e w10 ⟨rfl, hg10⟩))
        | (go_at_call 67; ((refine (HD.out _).mono ?_); rintro e w11 ⟨rfl, rfl⟩))))
    | fail
    all_goals
      (have HF := Lib.hid (And.right (by assumption : _ ∧ (w.alloc (.cells (na n) 37)).grownBy _ none))
       have c5 := HF.out.cell c5 (by simp)
       go_wp2_with (first | (go_at_call 69; ((with_reducible refine (H4.out _).mono ?_); rintro e w12 ⟨rfl, rfl⟩)) | (go_at_call 70; ((with_reducible refine (HS.out _).mono ?_); rintro e w12 ⟨rfl, rfl⟩)))
       go_ret
       exact ⟨rfl, grown_trans HG.out HF.out⟩)
end
theorem inc4 (u : Int) (h : us7 u) : (!(bits .and .u8 u 4 == 0)) = decide (u = 20) := by
  rcases h with rfl | rfl | rfl | rfl | rfl | rfl | rfl <;> decide +kernel
theorem nmay_any (n : Nt) (w : World) (hT : TabK w) : Calls Tryd.prog 53 #[.agg (na n)] w fun e w' => e = .returned (.int .i64 (yes n.ok)) ∧ w.grownBy w' none := by
  by_cases hk : 1 ≤ n.k ∧ n.k ≤ 11
  · by_cases hb : 0 ≤ n.b ∧ n.b < 256
    · obtain ⟨m, hm⟩ : ∃ m : Nat, n.k = (m : Int) := ⟨n.k.toNat, by omega⟩
      by_cases hu : n = usd (uses n.k) n
      · by_cases hc : 0 ≤ coreOf (uses n.k) n ∧ coreOf (uses n.k) n < 16
        · have h4 := inc4 _ (uses7 n.k)
          by_cases h20 : uses n.k = 20
          · have : yes n.ok = yes (1 ≤ n.s ∧ n.s ≤ 3) := by
              by_cases hs : 1 ≤ n.s ∧ n.s ≤ 3
              · rw [yes_of hs, yes_of (b := n.ok) ⟨hk, hb, hu, hc, fun _ => hs⟩]
              · rw [yes_not hs, yes_not (b := n.ok) (fun h => hs (h.2.2.2.2 h20))]
            rw [this]
            exact may_state n w hT m hm (by omega) (by omega) hb hu hc (by rw [h4, decide_eq_true h20])
          · rw [yes_of (b := n.ok) ⟨hk, hb, hu, hc, fun h => absurd h h20⟩]
            exact may_plain n w hT m hm (by omega) (by omega) hb hu hc (by rw [h4, decide_eq_false h20])
        · rw [yes_not (b := n.ok) (fun h => hc h.2.2.2.1)]
          exact may_core n w hT m hm (by omega) (by omega) hb hu hc
      · rw [yes_not (b := n.ok) (fun h => hu h.2.2.1)]
        exact may_used n w hT m hm (by omega) (by omega) hb hu
    · rw [yes_not (b := n.ok) (fun h => hb h.2.1)]
      exact may_block n w hk hb
  · rw [yes_not (b := n.ok) (fun h => hk h.1)]
    exact may_kind n w hk
end Go.Proofs.YtoemkhmbeiindaaDoor.tt
