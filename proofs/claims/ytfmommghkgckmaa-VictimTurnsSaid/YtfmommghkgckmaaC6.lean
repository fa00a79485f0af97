/-
  The law VictimTurns returns true: the walk. No condition but that the memory is a number of 8 bits.
-/
import Derived.Test.YtfmommghkgckmaaC5
import Derived.WalkSpells
namespace Go.Proofs.Ytfmommghkgckmaa.vv
open Go Go.ChangeShapes Go.WideShapes Go.ChangeAt Go.RowKit
set_option linter.unusedVariables false

/-- The memory, and how often each way was the victim, behind so many turns. -/
def turn (m n : Nat) : Nat → Nat × List Int
  | 0 => (m, [0, 0, 0, 0])
  | j + 1 => (us (turn m n j).1 n (vc (turn m n j).1 n), (turn m n j).2.set (vc (turn m n j).1 n) ((turn m n j).2.getD (vc (turn m n j).1 n) 0 + 1))
theorem turn1 : ∀ m : Fin 256, (turn m.val 1 1).1 = m.val ∧ (turn m.val 1 1).2 = [1, 0, 0, 0] := by decide +kernel
theorem turn2 : ∀ m : Fin 256, (turn m.val 2 2).1 = m.val % 2 + m.val / 2 * 2 ∧ (turn m.val 2 2).2 = [1, 1, 0, 0] := by decide +kernel
theorem turn4 : ∀ m : Fin 256, (turn m.val 4 4).1 = m.val ∧ (turn m.val 4 4).2 = [1, 1, 1, 1] := by decide +kernel
theorem turn_all (m n : Nat) (hm : m < 256) (hn : n = 1 ∨ n = 2 ∨ n = 4) : (turn m n n).1 = m ∧ ∀ j, j < n → (turn m n n).2[j]? = some 1 := by
  rcases hn with rfl | rfl | rfl
  · obtain ⟨h1, h2⟩ := turn1 ⟨m, hm⟩
    refine ⟨h1, fun j hj => ?_⟩
    obtain rfl : j = 0 := by omega
    rw [h2]; rfl
  · obtain ⟨h1, h2⟩ := turn2 ⟨m, hm⟩
    refine ⟨h1.trans (by show m % 2 + m / 2 * 2 = m; omega), fun j hj => ?_⟩
    rw [h2]
    obtain rfl | rfl : j = 0 ∨ j = 1 := by omega
    all_goals rfl
  · obtain ⟨h1, h2⟩ := turn4 ⟨m, hm⟩
    refine ⟨h1, fun j hj => ?_⟩
    rw [h2]
    obtain rfl | rfl | rfl | rfl : j = 0 ∨ j = 1 ∨ j = 2 ∨ j = 3 := by omega
    all_goals rfl
/-- What stands behind j turns: a number of 8 bits; four counts, none above j. -/
theorem turn_ok (m n : Nat) (hm : m < 256) (hn : n = 1 ∨ n = 2 ∨ n = 4) : ∀ j, (turn m n j).1 < 256 ∧ (turn m n j).2.length = 4 ∧ ∀ (i : Nat) (x : Int), (turn m n j).2[i]? = some x → 0 ≤ x ∧ x ≤ j
  | 0 => ⟨hm, rfl, fun i x h => by
    have : x ∈ [0, 0, 0, 0] := List.mem_of_getElem? h
    simp at this; subst this; exact ⟨by decide, by decide⟩⟩
  | j + 1 => by
    obtain ⟨h1, h2, h3⟩ := turn_ok m n hm hn j
    have hv := vc_lt (turn m n j).1 n hn
    refine ⟨us_lt _ _ _ h1 hv (by omega), by show (List.set _ _ _).length = 4; rw [List.length_set]; exact h2, fun i x h => ?_⟩
    replace h : ((turn m n j).2.set (vc (turn m n j).1 n) ((turn m n j).2.getD (vc (turn m n j).1 n) 0 + 1))[i]? = some x := h
    by_cases hi : vc (turn m n j).1 n = i
    · rw [hi, List.getElem?_set] at h
      simp at h
      obtain ⟨hl, rfl⟩ := h
      have := h3 i ((turn m n j).2[i]) (List.getElem?_eq_getElem hl)
      rw [List.getElem?_eq_getElem hl]
      simp; omega
    · rw [List.getElem?_set_ne hi] at h
      have := h3 i x h
      omega

def irow (xs : List Int) : Array Value := (xs.map (Value.int .i64)).toArray
theorem irow_get (xs : List Int) (k : Nat) : (irow xs)[k]? = (xs[k]?).map (Value.int .i64) := by simp [irow]
theorem irow_set (xs : List Int) (k : Nat) (y : Int) : (irow xs).setIfInBounds k (.int .i64 y) = irow (xs.set k y) := by simp [irow]

/-- The counts lie in block g, which is new. -/
structure St (w1 wr : World) (g : Nat) (xs : List Int) : Prop where
  grown : w1.grownBy wr none
  blk : wr.heap[g]? = some (.cells (irow xs) 30 (0, 0))
  new : w1.heap.size ≤ g
theorem St.call {w1 wr w' : World} {g : Nat} {xs : List Int} (h : St w1 wr g xs) (hg : wr.grownBy w' none) : St w1 w' g xs :=
  ⟨grown_trans h.grown hg, (hg.block g (Array.getElem?_eq_some_iff.1 h.blk).1 (by simp)).trans h.blk, h.new⟩
theorem heap_setCell_same (w : World) (g i : Nat) (v : Value) (cs : Array Value) (t : TypeId) (h : w.heap[g]? = some (.cells cs t (0, 0))) : (w.setCell ⟨g, i, none⟩ v).heap[g]? = some (.cells (cs.setIfInBounds i v) t (0, 0)) := by
  obtain ⟨hlt, hk⟩ := Array.getElem?_eq_some_iff.1 h
  show (w.heap.modify g _)[g]? = _
  rw [Array.getElem?_eq_getElem (by rw [Array.size_modify]; exact hlt), Array.getElem_modify_self, hk]
  simp
theorem St.store {w1 wr : World} {g : Nat} {xs : List Int} (h : St w1 wr g xs) (i : Nat) (y : Int) : St w1 (wr.setCell ⟨g, i, none⟩ (.int .i64 y)) g (xs.set i y) :=
  ⟨⟨h.grown.os, h.grown.tape, h.grown.output, by have := h.grown.size; simp [World.setCell]; omega, fun k hk hn => (Below.heap_setCell _ _ _ _ (by have := h.new; simp; omega)).trans (h.grown.block k hk hn)⟩,
    by rw [← irow_set]; exact heap_setCell_same _ _ _ _ _ _ h.blk, h.new⟩
theorem St.cell {w1 wr : World} {g : Nat} {xs : List Int} (h : St w1 wr g xs) {i : Nat} {x : Int} (hx : xs[i]? = some x) : wr.cell? ⟨g, i, none⟩ = some (.int .i64 x) :=
  (cell_of_row _ _ _ _ _ _ h.blk).trans (by rw [irow_get, hx]; rfl)
theorem St.frozen {w1 wr : World} {g : Nat} {xs : List Int} (h : St w1 wr g xs) (i : Nat) : wr.frozen? ⟨g, i, none⟩ = false := by
  simp [World.frozen?, h.blk]

theorem turns_bad (m ways : Int) (w : World) (h : ¬ good ways) : Calls Try.prog 7 #[.int .u8 m, .int .i64 ways] w fun e w' => e = .returned (.bool true) ∧ w.grownBy w' none := by
  have h1 : (ways != 1) = true := by unfold good at h; simp; omega
  have h2 : (ways != 2) = true := by unfold good at h; simp; omega
  have h4 : (ways != 4) = true := by unfold good at h; simp; omega
  have hw : Hid (∀ w, _) := Lib.hid works_any
  clear h
  go_enter Try.func7, Try.ntmps7
  go_wp2_with (go_at_call 10; ((with_reducible refine (hw.out _).mono ?_); rintro e w3 ⟨rfl, hg3⟩; have HG3 := Lib.hid hg3; clear hg3))
  go_ret
  exact ⟨rfl, HG3.out⟩

set_option maxRecDepth 100000 in
set_option maxHeartbeats 4000000 in
theorem turns_good (m n : Nat) (w : World) (hm : m < 256) (hn0 : n = 1 ∨ n = 2 ∨ n = 4) : Calls Try.prog 7 #[.int .u8 (m : Int), .int .i64 (n : Int)] w fun e w' => e = .returned (.bool true) ∧ w.grownBy w' none := by
  have hw : Hid (∀ w, _) := Lib.hid works_any
  have hl : n ≤ 4 := by omega
  have hp : 1 ≤ n := by omega
  have hc : ((n : Int) != 1) = false ∨ (((n : Int) != 1) = true ∧ ((n : Int) != 2) = false) ∨ (((n : Int) != 1) = true ∧ ((n : Int) != 2) = true ∧ ((n : Int) != 4) = false) := by
    rcases hn0 with rfl | rfl | rfl
    · exact Or.inl rfl
    · exact Or.inr (Or.inl ⟨rfl, rfl⟩)
    · exact Or.inr (Or.inr ⟨rfl, rfl, rfl⟩)
  have HOK := Lib.hid (turn_ok m n hm hn0)
  have HALL := Lib.hid (turn_all m n hm hn0)
  have HV : Hid (∀ (x : Nat), x < 256 → ∀ w, _) := Lib.hid fun x hx w => victim_in x n w hx (by unfold good; omega)
  have HU : Hid (∀ (x k : Nat), x < 256 → k < n → ∀ w, _) := Lib.hid fun x k hx hk w => (use_in x n k w hx (by unfold good; omega) hk).mono fun e w' ⟨h1, h2⟩ => (⟨h1, grown_of_drewN h2⟩ : _ ∧ w.grownBy w' none)
  have HL : Hid (∀ x, vc x n < n) := Lib.hid fun x => vc_lt x n hn0
  have HN := Lib.hid hn0
  clear hn0
  rcases hc with c1 | ⟨c1, c2⟩ | ⟨c1, c2, c4⟩ <;> (
    go_enter Try.func7, Try.ntmps7
    go_wp2_with fail
    try clear c4
    try clear c2
    clear c1
    go_loopw [0, 20] (fun x i wr => ∃ k : Nat, k ≤ 3 ∧ i = .int .i64 (k : Int) ∧ x = .int .u8 (m : Int) ∧ w.grownBy wr none) (fun _ i _ => 3 - (intOf i).toNat)
    case atStart => exact ⟨0, by omega, rfl, rfl, grown_refl _ _⟩
    case round =>
      obtain ⟨k, hk, rfl, rfl, hgr⟩ := hrel
      have HGR := Lib.hid hgr
      clear hgr
      by_cases hk3 : k < 3
      · have hk4 : decide ((k : Int) < 3) = true := by simp; omega
        have HS0 : Hid (St w (wr.alloc (.cells (irow (turn m n 0).2) 30)) wr.heap.size (turn m n 0).2) := Lib.hid ⟨grown_alloc HGR.out _, heap_alloc_new _ _, HGR.out.size⟩
        go_wp2_with fail
        go_loopw [0, 24] (fun x i wr2 => ∃ j : Nat, j ≤ n ∧ i = .int .i64 (j : Int) ∧ x = .int .u8 ((turn m n j).1 : Nat) ∧ St w wr2 wr.heap.size (turn m n j).2) (fun _ i _ => n - (intOf i).toNat)
        case atStart => exact ⟨0, by omega, rfl, rfl, HS0.out⟩
        case round =>
          clear HS0
          obtain ⟨j, hj, rfl, rfl, hs⟩ := hrel
          have HS := Lib.hid hs
          clear hs
          by_cases hjn : j < n
          · obtain ⟨t1, t2, t3⟩ := HOK.out j
            obtain ⟨o1, o2⟩ : (turn m n (j + 1)).1 = us (turn m n j).1 n (vc (turn m n j).1 n) ∧ (turn m n (j + 1)).2 = (turn m n j).2.set (vc (turn m n j).1 n) ((turn m n j).2.getD (vc (turn m n j).1 n) 0 + 1) := ⟨rfl, rfl⟩
            have HO1 := Lib.hid o1
            have HO2 := Lib.hid o2
            clear o1 o2
            generalize (turn m n j).1 = x at *
            generalize (turn m n j).2 = xs at *
            have hv := HL.out x
            have HVx := Lib.hid (HV.out x t1)
            have HUx := Lib.hid (HU.out x (vc x n) t1 hv)
            generalize vc x n = v at *
            generalize us x n v = y at *
            obtain ⟨c, hc⟩ : ∃ c, xs[v]? = some c := ⟨_, List.getElem?_eq_getElem (by omega)⟩
            have hcb := t3 v c hc
            have hget : xs.getD v 0 = c := by simp [hc]
            rw [hget] at HO2
            have d0 := HS.out.cell hc
            have d1 := HS.out.frozen v
            have HS2 := Lib.hid (HS.out.store v (c + 1))
            rw [← HO2.out] at HS2
            clear hc t3 hget
            go_wp2_with (first
              | (go_at_call 9; ((with_reducible refine (HVx.out _).mono ?_); rintro e w' ⟨rfl, rfl⟩))
              | (go_at_call 8; ((with_reducible refine (HUx.out _).mono ?_); rintro e w4 ⟨rfl, hg4⟩; have HS3 := Lib.hid (HS2.out.call hg4); clear hg4)))
            go_roundw
            case rel => exact ⟨j + 1, by omega, by go_num, by rw [HO1.out], HS3.out⟩
            case measure => simp [intOf]; omega
          · obtain rfl : n = j := by omega
            obtain ⟨f1, f2⟩ := HALL.out
            have F2 := Lib.hid f2
            rw [f1]
            clear f1 f2
            go_wp2_with fail
            go_loop [58] (fun i => ∃ j : Nat, j ≤ n ∧ i = .int .i64 (j : Int)) (fun i => n - (intOf i).toNat)
            case atStart => exact ⟨0, Nat.zero_le _, rfl⟩
            case round =>
              obtain ⟨j, hj, rfl⟩ := hrel
              by_cases hjl : j < n
              · have d0 := HS.out.cell (F2.out j hjl)
                go_wp2_with fail
                go_round
                case rel => exact ⟨j + 1, by omega, by go_num⟩
                case measure => simp [intOf]; omega
              · go_wp2_with fail
                go_roundw
                case rel => exact ⟨k + 1, by omega, by go_num, rfl, HS.out.grown⟩
                case measure => simp [intOf]; omega
      · go_wp2_with (go_at_call 10; ((with_reducible refine (hw.out _).mono ?_); rintro e w3 ⟨rfl, hg3⟩; have HG3 := Lib.hid hg3; clear hg3))
        go_ret
        exact ⟨rfl, grown_trans HGR.out HG3.out⟩)

theorem turns_true (m : Nat) (ways : Int) (w : World) (hm : m < 256) : Calls Try.prog 7 #[.int .u8 (m : Int), .int .i64 ways] w fun e w' => e = .returned (.bool true) ∧ w.grownBy w' none := by
  by_cases hg : good ways
  · obtain ⟨n, rfl⟩ := good_nat hg
    exact turns_good m n w hm (by unfold good at hg; omega)
  · exact turns_bad m ways w hg
end Go.Proofs.Ytfmommghkgckmaa.vv
