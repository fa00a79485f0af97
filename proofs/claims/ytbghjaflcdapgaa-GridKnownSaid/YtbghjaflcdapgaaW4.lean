/-
  The law GridWays returns true for every four ints. No condition.
-/
import Derived.Test.YtbghjaflcdapgaaW3
import Derived.Deep.QuietTactic
import Derived.BigQuiet
namespace Go.Proofs.Ytbghjaflcdapgaa.w1
open Go.ChangeShapes Go.WideShapes Go.ChangeAt Go.RowKit
open Go.Proofs.Ytbghjaflcdapgaa.Fp

theorem met_get (a b c d : Int) (n j : Nat) (h : j < n) : (met a b c d n)[j]? = some (cellOf (pt a b c d (j + 1))) := by
  simp [met, h]
theorem met2_len (a b c d : Int) : ∀ n, (met2 a b c d n).length = 2 * n
  | 0 => rfl
  | n + 1 => by
    show (met2 a b c d n ++ pairOf _).length = _
    rw [List.length_append, met2_len a b c d n]; simp [pairOf]; omega
theorem met2_get (a b c d : Int) : ∀ (n j : Nat), j < n → (met2 a b c d n)[2 * j]? = some (.int .i64 (pt a b c d (j + 1)).1) ∧ (met2 a b c d n)[2 * j + 1]? = some (.int .i64 (pt a b c d (j + 1)).2)
  | 0, j, h => by omega
  | n + 1, j, h => by
    have hl := met2_len a b c d n
    have e : met2 a b c d (n + 1) = met2 a b c d n ++ pairOf (pt a b c d (n + 1)) := rfl
    rw [e]
    by_cases hj : j < n
    · rw [List.getElem?_append_left (by omega), List.getElem?_append_left (by omega)]
      exact met2_get a b c d n j hj
    · have hjn : j = n := by omega
      subst hjn
      rw [List.getElem?_append_right (by omega), List.getElem?_append_right (by omega), hl]
      have e0 : 2 * j - 2 * j = 0 := by omega
      have e1 : 2 * j + 1 - 2 * j = 1 := by omega
      rw [e0, e1]
      exact ⟨rfl, rfl⟩

theorem own_pos {w : World} {base : Nat} {e : TypeId} {size : Nat} {v : Value} {n : Nat} {xs : List Value} (h : w.ownsRow base e size v n xs) (hn : 0 < n) :
    ∃ g cap, v = .slice (some ⟨g, 0, none⟩) n cap ∧ base ≤ g ∧ g < w.heap.size ∧ ∀ j u, xs[j]? = some u → w.cell? ⟨g, j, none⟩ = some u := by
  have hcells := fun g (hg : v.ownBlock = some g) => h.cells hg
  have hlt := h.lt
  rcases h.2 with ⟨rfl, h0⟩ | ⟨g, cap, cur, rfl, hb, hh, _⟩
  · omega
  · have h1 := hcells g rfl
    exact ⟨g, cap, rfl, hb, (hlt g rfl).2, fun j u hu => by
      have h2 := h1 j u hu
      by_cases hj : j = 0
      · subst hj; simpa [Addr.add] using h2
      · simpa [Addr.add, hj] using h2⟩
theorem own_len {w : World} {base : Nat} {e : TypeId} {size : Nat} {v : Value} {n : Nat} {xs : List Value} (h : w.ownsRow base e size v n xs) :
    ∃ ad cap, v = .slice ad n cap := by
  rcases h.2 with ⟨rfl, rfl⟩ | ⟨g, cap, cur, rfl, hb, hh, _⟩
  · exact ⟨_, _, rfl⟩
  · exact ⟨_, _, rfl⟩

theorem inB_box {a b c d : Int} (h : ((inB a && inB b) && (inB c && inB d)) = true) : box (a, b) ∧ box (c, d) := by
  simp only [Bool.and_eq_true] at h
  have := inB_yes h.1.1; have := inB_yes h.1.2; have := inB_yes h.2.1; have := inB_yes h.2.2
  exact ⟨⟨by assumption, by assumption⟩, ⟨by assumption, by assumption⟩⟩

theorem place_same (x y : Int) (w : World) : Calls Try.prog 11 #[.int .i64 x, .int .i64 y] w fun e w' => e = .returned (.complex .f64 (F x) (F y)) ∧ w' = w :=
  (place_any x y w).mono fun _ _ h => ⟨h.1, h.2.symm⟩

theorem ways_none (a b c d : Int) (w : World) (ha : i64 a) (hb : i64 b) (hc : i64 c) (hd : i64 d) (hn : ((inB a && inB b) && (inB c && inB d)) = false) :
    Calls Try.prog 5 #[.int .i64 a, .int .i64 b, .int .i64 c, .int .i64 d] w fun e w' => e = .returned (.bool true) ∧ Below w.heap.size w w' := by
  have H12 := Lib.hid (hops_no a b c d w ha hb hc hd hn)
  have H8 := Lib.hid (way_none a b c d w ha hb hc hd hn)
  cases h1 : (inB a && inB b) with
  | false =>
    have H1 := Lib.hid h1
    clear h1 hn ha hb hc hd
    go_enter Try.func5, Try.ntmps5
    go_wp2_with (first
      | (go_at_call 11; ((with_reducible refine (place_any _ _ _).mono ?_); rintro e w' ⟨rfl, rfl⟩))
      | (go_at_call 12; ((with_reducible refine H12.out.mono ?_); rintro e w' ⟨rfl, rfl⟩))
      | (go_at_call 8; ((with_reducible refine H8.out.mono ?_); rintro e w' ⟨rfl, rfl⟩))
      | (go_at_call 13; ((with_reducible refine (is_any a b _).mono ?_); rintro e w' ⟨rfl, rfl⟩; rw [H1.out]))
      | (go_at_call 9; ((with_reducible refine (works_any _).mono ?_); rintro e w' ⟨rfl, rfl⟩)))
    go_ret
    exact ⟨rfl, Below.refl _ _⟩
  | true =>
    have h2 : (inB c && inB d) = false := by rw [h1] at hn; simpa using hn
    have H1 := Lib.hid h1
    have H2 := Lib.hid h2
    clear h1 h2 hn ha hb hc hd
    go_enter Try.func5, Try.ntmps5
    go_wp2_with (first
      | (go_at_call 11; ((with_reducible refine (place_any _ _ _).mono ?_); rintro e w' ⟨rfl, rfl⟩))
      | (go_at_call 12; ((with_reducible refine H12.out.mono ?_); rintro e w' ⟨rfl, rfl⟩))
      | (go_at_call 8; ((with_reducible refine H8.out.mono ?_); rintro e w' ⟨rfl, rfl⟩))
      | (go_at_call 13; ((with_reducible refine (is_any a b _).mono ?_); rintro e w' ⟨rfl, rfl⟩; rw [H1.out]))
      | (go_at_call 13; ((with_reducible refine (is_any c d _).mono ?_); rintro e w' ⟨rfl, rfl⟩; rw [H2.out]))
      | (go_at_call 9; ((with_reducible refine (works_any _).mono ?_); rintro e w' ⟨rfl, rfl⟩)))
    go_ret
    exact ⟨rfl, Below.refl _ _⟩

theorem ways_far (a b c d : Int) (w : World) (hp : box (a, b)) (hq : box (c, d)) (hf : 4096 < steps a b c d) :
    Calls Try.prog 5 #[.int .i64 a, .int .i64 b, .int .i64 c, .int .i64 d] w fun e w' => e = .returned (.bool true) ∧ Below w.heap.size w w' := by
  have hh := hops_yes a b c d w (box_inB hp).1 (box_inB hp).2 (box_inB hq).1 (box_inB hq).2
  rw [dist_steps] at hh
  have H12 := Lib.hid hh
  have H8 := Lib.hid (way_far a b c d w hp hq hf)
  have H1 := Lib.hid (show (inB a && inB b) = true by rw [(box_inB hp).1, (box_inB hp).2]; rfl)
  have H2 := Lib.hid (show (inB c && inB d) = true by rw [(box_inB hq).1, (box_inB hq).2]; rfl)
  have H14 := Lib.hid (refhops_any a b c d w hp hq)
  have hf' : (4096 : Int) < (steps a b c d : Nat) := by omega
  clear hh hp hq hf
  go_enter Try.func5, Try.ntmps5
  go_wp2_with (first
    | (go_at_call 11; ((with_reducible refine (place_any _ _ _).mono ?_); rintro e w' ⟨rfl, rfl⟩))
    | (go_at_call 12; ((with_reducible refine H12.out.mono ?_); rintro e w' ⟨rfl, rfl⟩))
    | (go_at_call 8; ((with_reducible refine H8.out.mono ?_); rintro e w' ⟨rfl, rfl⟩))
    | (go_at_call 13; ((with_reducible refine (is_any a b _).mono ?_); rintro e w' ⟨rfl, rfl⟩; rw [H1.out]))
    | (go_at_call 13; ((with_reducible refine (is_any c d _).mono ?_); rintro e w' ⟨rfl, rfl⟩; rw [H2.out]))
    | (go_at_call 14; ((with_reducible refine H14.out.mono ?_); rintro e w' ⟨rfl, rfl⟩))
    | (go_at_call 9; ((with_reducible refine (works_any _).mono ?_); rintro e w' ⟨rfl, rfl⟩)))
  go_ret
  exact ⟨rfl, Below.refl _ _⟩

set_option maxHeartbeats 1600000 in
theorem ways_near (a b c d : Int) (w : World) (hp : box (a, b)) (hq : box (c, d)) (hf : steps a b c d ≤ 4096) :
    Calls Try.prog 5 #[.int .i64 a, .int .i64 b, .int .i64 c, .int .i64 d] w fun e w' => e = .returned (.bool true) ∧ Below w.heap.size w w' := by
  have hh := hops_yes a b c d w (box_inB hp).1 (box_inB hp).2 (box_inB hq).1 (box_inB hq).2
  rw [dist_steps] at hh
  have H12 := Lib.hid hh
  have H8 := Lib.hid (way_yes a b c d w hp hq hf)
  have H1 := Lib.hid (show (inB a && inB b) = true by rw [(box_inB hp).1, (box_inB hp).2]; rfl)
  have H2 := Lib.hid (show (inB c && inB d) = true by rw [(box_inB hq).1, (box_inB hq).2]; rfl)
  have H14 := Lib.hid (fun w => refhops_any a b c d w hp hq)
  have H15 := Lib.hid (fun w => refway_any a b c d w hp hq)
  have HP := Lib.hid hp
  have HQ := Lib.hid hq
  have hf' : ¬ (4096 : Int) < (steps a b c d : Nat) := by omega
  clear hh hp hq
  go_enter Try.func5, Try.ntmps5
  go_wp2_with (first
    | (go_at_call 11; ((with_reducible refine (place_any _ _ _).mono ?_); rintro e w' ⟨rfl, rfl⟩))
    | (go_at_call 12; ((with_reducible refine H12.out.mono ?_); rintro e w' ⟨rfl, rfl⟩))
    | (go_at_call 8; ((with_reducible refine H8.out.mono ?_); rintro e w1 ⟨v1, rfl, hown1, hbe1⟩; obtain ⟨ad1, cap1, rfl⟩ := own_len hown1))
    | (go_at_call 13; ((with_reducible refine (is_any a b _).mono ?_); rintro e w' ⟨rfl, rfl⟩; rw [H1.out]))
    | (go_at_call 13; ((with_reducible refine (is_any c d _).mono ?_); rintro e w' ⟨rfl, rfl⟩; rw [H2.out]))
    | (go_at_call 14; ((with_reducible refine (H14.out _).mono ?_); rintro e w' ⟨rfl, rfl⟩))
    | (go_at_call 15; ((with_reducible refine (H15.out _).mono ?_); rintro e w2 ⟨v2, rfl, hown2, hbe2⟩; obtain ⟨ad2, cap2, rfl⟩ := own_len hown2))
    | (go_at_call 9; ((with_reducible refine (works_any _).mono ?_); rintro e w' ⟨rfl, rfl⟩)))
  obtain ⟨n, hn⟩ : ∃ n, n = steps a b c d := ⟨_, rfl⟩
  have HC := Lib.hid (show 0 < n → ∃ g1 g2, ad1 = some ⟨g1, 0, none⟩ ∧ ad2 = some ⟨g2, 0, none⟩ ∧ ∀ j, j < n → w2.cell? ⟨g1, j, none⟩ = some (cellOf (pt a b c d (j + 1))) ∧ w2.cell? ⟨g2, 2 * j, none⟩ = some (.int .i64 (pt a b c d (j + 1)).1) ∧ w2.cell? ⟨g2, 2 * j + 1, none⟩ = some (.int .i64 (pt a b c d (j + 1)).2) by
    intro h0
    rw [← hn] at hown1 hown2
    obtain ⟨g1, c1, e1, _, l1, r1⟩ := own_pos hown1 h0
    obtain ⟨g2, c2, e2, _, l2, r2⟩ := own_pos hown2 h0
    cases e1
    cases e2
    refine ⟨g1, g2, rfl, rfl, fun j hj => ⟨?_, r2 _ _ (met2_get a b c d n j hj).1, r2 _ _ (met2_get a b c d n j hj).2⟩⟩
    rw [hbe2.cell (by exact l1)]
    exact r1 _ _ (met_get a b c d n j hj))
  have hbe := hbe1.trans (hbe2.mono hbe1.size)
  have HB := Lib.hid hbe
  have HPB := Lib.hid (fun k (h : k ≤ n) => pt_box a b c d HP.out HQ.out k (hn ▸ h))
  have hn4 : n ≤ 4096 := by omega
  clear hown1 hown2 hbe1 hbe2 hbe hf hf'
  rw [← hn]
  clear hn
  go_loopw [103, 14, 15] (fun i _ _ wr => ∃ k : Nat, k ≤ n ∧ i = .int .i64 k ∧ ∃ m, wr = w2.drewN m) (fun i _ _ _ => n - (intOf i).toNat)
  case atStart => exact ⟨0, Nat.zero_le _, rfl, 0, rfl⟩
  case round =>
    obtain ⟨k, hk, rfl, m, hwr⟩ := hrel
    have hcl : ∀ x, wr.cell? x = w2.cell? x := fun x => by rw [hwr]; exact World.cell?_drewN _ _ _
    have HWR := Lib.hid hwr
    clear hwr
    by_cases hlt : k < n
    · obtain ⟨g1, g2, rfl, rfl, hcc⟩ := HC.out (by omega)
      obtain ⟨h1, h2, h3⟩ := hcc k hlt
      rw [← hcl] at h1 h2 h3
      clear hcl
      have hbx := HPB.out (k + 1) (by omega)
      obtain ⟨x, y, hxy⟩ : ∃ x y, pt a b c d (k + 1) = (x, y) := ⟨_, _, rfl⟩
      rw [hxy] at h1 h2 h3 hbx
      rw [show cellOf (x, y) = .complex .f64 (F x) (F y) from rfl] at h1
      dsimp only at h2 h3
      rw [Nat.mul_comm] at h2 h3
      unfold box at hbx
      dsimp only at hbx
      have hne := cneq_same Try.prog 22 x y (by omega) (by omega)
      clear hcc hbx hxy
      go_wp2_with fail
      go_quiet ((go_at_call 11; exact Calls.quiet_of_same (place_same _ _ _)))
      go_wp2_with fail
      go_roundw
      case rel => exact ⟨k + 1, by omega, by go_num, m + _, by rw [HWR.out, World.drewN_drewN]⟩
      case measure => simp [intOf]; omega
    · have hkn : k = n := by omega
      subst hkn
      clear hcl
      go_wp2_with (go_at_call 9; ((with_reducible refine (works_any _).mono ?_); rintro e w' ⟨rfl, rfl⟩))
      go_ret
      exact ⟨rfl, HWR.out ▸ below_drewN HB.out _⟩

/-- The law: whatever four ints come. -/
theorem ways_true (a b c d : Int) (w : World) (ha : i64 a) (hb : i64 b) (hc : i64 c) (hd : i64 d) :
    Calls Try.prog 5 #[.int .i64 a, .int .i64 b, .int .i64 c, .int .i64 d] w fun e w' => e = .returned (.bool true) ∧ Below w.heap.size w w' := by
  cases hn : ((inB a && inB b) && (inB c && inB d)) with
  | false => exact ways_none a b c d w ha hb hc hd hn
  | true =>
    obtain ⟨hp, hq⟩ := inB_box hn
    by_cases hf : steps a b c d ≤ 4096
    · exact ways_near a b c d w hp hq hf
    · exact ways_far a b c d w hp hq (by omega)
end Go.Proofs.Ytbghjaflcdapgaa.w1
