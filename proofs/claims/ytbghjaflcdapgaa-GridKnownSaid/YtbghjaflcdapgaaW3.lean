/-
  What the document's own Is, Hops and Way answer at whole numbers: contracts. No condition beyond the bounds that each theorem names.
-/
import Derived.Test.YtbghjaflcdapgaaW2
namespace Go.Proofs.Ytbghjaflcdapgaa.w1
open Go.ChangeShapes Go.WideShapes Go.ChangeAt Go.RowKit
open Go.Proofs.Ytbghjaflcdapgaa.Fp

theorem is_any (x y : Int) (w : World) : Calls Try.prog 13 #[.int .i64 x, .int .i64 y] w fun e w' => e = .returned (.bool (inB x && inB y)) ∧ w = w' := by
  by_cases h1 : -1048576 ≤ x
  · by_cases h2 : x ≤ 1048576
    · have e1 : inB x = true := by simp [inB]; omega
      rw [e1]
      clear e1
      by_cases h3 : -1048576 ≤ y
      · by_cases h4 : y ≤ 1048576
        · have e2 : inB y = true := by simp [inB]; omega
          rw [e2]
          clear e2
          go_enter Try.func13, Try.ntmps13
          go_wp2
          go_ret
          exact ⟨rfl, rfl⟩
        · have e2 : inB y = false := by simp [inB]; omega
          rw [e2]
          clear e2
          go_enter Try.func13, Try.ntmps13
          go_wp2
          go_ret
          exact ⟨rfl, rfl⟩
      · have e2 : inB y = false := by simp [inB]; omega
        rw [e2]
        clear e2
        go_enter Try.func13, Try.ntmps13
        go_wp2
        go_ret
        exact ⟨rfl, rfl⟩
    · have e1 : inB x = false := by simp [inB]; omega
      rw [e1]
      clear e1
      go_enter Try.func13, Try.ntmps13
      go_wp2
      go_ret
      exact ⟨rfl, rfl⟩
  · have e1 : inB x = false := by simp [inB]; omega
    rw [e1]
    clear e1
    go_enter Try.func13, Try.ntmps13
    go_wp2
    go_ret
    exact ⟨rfl, rfl⟩

theorem refabs_any (n : Int) (w : World) (h1 : -9223372036854775808 < n) (h2 : n ≤ 9223372036854775807) : Calls Try.prog 20 #[.int .i64 n] w fun e w' => e = .returned (.int .i64 (n.natAbs : Nat)) ∧ w = w' := by
  by_cases h : n < 0
  · have e : ((n.natAbs : Nat) : Int) = -n := by omega
    rw [e]
    clear e
    go_enter Try.func20, Try.ntmps20
    go_wp2
    go_ret
    exact ⟨rfl, rfl⟩
  · have e : ((n.natAbs : Nat) : Int) = n := by omega
    rw [e]
    clear e
    go_enter Try.func20, Try.ntmps20
    go_wp2
    go_ret
    exact ⟨rfl, rfl⟩

theorem refhops_any (a b c d : Int) (w : World) (hp : box (a, b)) (hq : box (c, d)) : Calls Try.prog 14 #[.int .i64 a, .int .i64 b, .int .i64 c, .int .i64 d] w fun e w' => e = .returned (.int .i64 ((steps a b c d : Nat) : Int)) ∧ w = w' := by
  unfold box at hp hq
  dsimp only at hp hq
  obtain ⟨⟨a1, a2⟩, b1, b2⟩ := hp
  obtain ⟨⟨c1, c2⟩, d1, d2⟩ := hq
  have hst : ((steps a b c d : Nat) : Int) = (((c - a).natAbs : Nat) : Int) + (((d - b).natAbs : Nat) : Int) := by unfold steps; omega
  rw [hst]
  obtain ⟨m, hm⟩ : ∃ m, m = (c - a).natAbs := ⟨_, rfl⟩
  obtain ⟨n, hn⟩ : ∃ n, n = (d - b).natAbs := ⟨_, rfl⟩
  have A1 := Lib.hid (refabs_any (c - a) w (by omega) (by omega))
  have A2 := Lib.hid (refabs_any (d - b) w (by omega) (by omega))
  have hm2 : m ≤ 2097152 := by omega
  have hn2 : n ≤ 2097152 := by omega
  rw [← hm] at A1 ⊢
  rw [← hn] at A2 ⊢
  clear hst hm hn
  go_enter Try.func14, Try.ntmps14
  go_wp2_with (first
    | (go_at_call 20; ((with_reducible refine A1.out.mono ?_); rintro e w' ⟨rfl, rfl⟩))
    | (go_at_call 20; ((with_reducible refine A2.out.mono ?_); rintro e w' ⟨rfl, rfl⟩)))
  go_ret
  exact ⟨rfl, rfl⟩

def pairOf (p : Int × Int) : List Value := [.int .i64 p.1, .int .i64 p.2]
def met2 (a b c d : Int) : Nat → List Value
  | 0 => []
  | k + 1 => met2 a b c d k ++ pairOf (pt a b c d (k + 1))

/-- one more pair behind those that are there -/
theorem push2 {ops : Array Oper} {rest : List Oper} {o : Oper} {a : Act} {Q : Exit → Act → World → Prop} {w wr : World} (hgd : o.guard = none) (s x : Operand)
    (ho : o.op = .call { callee := .builtin .append, args := #[s, x], argTypes := #[39, 39] }) {v : Value} {k : Nat} {xs : List Value} (hs : a.eval s = v) (hown : wr.ownsRow w.heap.size 41 2 v k xs) (hbe : Below w.heap.size w wr)
    (p q : Int) (hx : a.eval x = .slice (some ⟨wr.heap.size, 0, none⟩) 1 1) (hk : k ≤ 4194304)
    (h : ∀ v' w', w'.ownsRow w.heap.size 41 2 v' (k + 1) (xs ++ [.int .i64 p, .int .i64 q]) → Below w.heap.size w w' → wpList Try.prog ops Q rest (a.put o.dst v') w') :
    wpList Try.prog ops Q (o :: rest) a (wr.alloc (.cells #[.int .i64 p, .int .i64 q] 41)) := by
  obtain ⟨i0, hi, hz0, hz1, hz2⟩ := info_parts Try.info41
  have hsz := hbe.size
  refine wpList_append_own _ hgd s x 39 ho w.heap.size 41 i0 (.agg #[.int .i64 0, .int .i64 0]) 2 16 Try.underlying39 hi hz0 hz1 hz2 rfl (by decide) v k xs hs (hown.alloc _) ⟨wr.heap.size, 0, none⟩ 1 1 [.int .i64 p, .int .i64 q] hx rfl ?_ ?_ (by unfold maxLen; omega) (by omega) (by simp; omega) ?_
  · intro j r hj
    match j, hj with
    | 0, hj => simp at hj; subst hj; simp [Addr.add]
    | 1, hj => simp at hj; subst hj; simp [Addr.add]
  · intro r hr; simp at hr; rcases hr with rfl | rfl <;> rfl
  · intro v' w' h1 h2 _
    exact h v' w' h1 ((hbe.alloc hsz _).grown h2 (by simp; omega) (own_block hown))

theorem sgn_pos {n : Int} (h : 0 < n) : sgn n = 1 := by unfold sgn; rw [if_neg (by omega)]
theorem sgn_neg {n : Int} (h : n < 0) : sgn n = -1 := by unfold sgn; rw [if_pos h]

set_option maxHeartbeats 1600000 in
theorem refway_any (a b c d : Int) (w : World) (hp : box (a, b)) (hq : box (c, d)) :
    Calls Try.prog 15 #[.int .i64 a, .int .i64 b, .int .i64 c, .int .i64 d] w fun e w' => ∃ v, e = .returned v ∧ w'.ownsRow w.heap.size 41 2 v (steps a b c d) (met2 a b c d (steps a b c d)) ∧ Below w.heap.size w w' := by
  have HP := Lib.hid hp
  have HQ := Lib.hid hq
  have hs0 : steps a b c d ≤ 4194304 := by unfold box at hp hq; unfold steps; dsimp only at hp hq; omega
  clear hp hq
  go_enter Try.func15, Try.ntmps15
  go_wp2_with fail
  go_loopw [0, 9] (fun u v wr => ∃ (k : Nat) (x : Int), k ≤ steps a b c d ∧ u = .int .i64 x ∧ pt a b c d k = (x, b) ∧ wr.ownsRow w.heap.size 41 2 v k (met2 a b c d k) ∧ Below w.heap.size w wr) (fun _ v _ => steps a b c d - lenOf v)
  case atStart => exact ⟨0, a, Nat.zero_le _, rfl, rfl, World.ownsRow_nil _ _ _ _, Below.refl _ _⟩
  case round =>
    obtain ⟨k, x, hk, rfl, hxy, hown, hbe⟩ := hrel
    have hst := pt_steps a b c d k hk
    have hbx := pt_box a b c d HP.out HQ.out k hk
    have hnx : pt a b c d (k + 1) = stp c d (pt a b c d k) := rfl
    have hms : met2 a b c d (k + 1) = met2 a b c d k ++ pairOf (pt a b c d (k + 1)) := rfl
    rw [hxy] at hst hbx hnx
    have hcd := HQ.out
    unfold box at hcd hbx
    dsimp only at hcd hst hbx
    obtain ⟨⟨x1, x2⟩, y1, y2⟩ := hbx
    obtain ⟨⟨c1, c2⟩, d1, d2⟩ := hcd
    have HXY := Lib.hid hxy
    by_cases hxc : x = c
    · subst hxc
      have hk4 : k ≤ 4194304 := by omega
      have HK0 := Lib.hid hk
      clear hnx hms hst hxy hk
      go_wp2_with fail
      go_loopw [1, 9] (fun u v wr => ∃ (k : Nat) (y : Int), k ≤ steps a b x d ∧ u = .int .i64 y ∧ pt a b x d k = (x, y) ∧ wr.ownsRow w.heap.size 41 2 v k (met2 a b x d k) ∧ Below w.heap.size w wr) (fun _ v _ => steps a b x d - lenOf v)
      case atStart => exact ⟨k, b, HK0.out, rfl, HXY.out, hown, hbe⟩
      case round =>
        clear hown hbe HXY HK0 hk4
        obtain ⟨k, y, hk, rfl, hxy, hown, hbe⟩ := hrel
        have hst := pt_steps a b x d k hk
        have hbx := pt_box a b x d HP.out HQ.out k hk
        have hnx : pt a b x d (k + 1) = stp x d (pt a b x d k) := rfl
        have hms : met2 a b x d (k + 1) = met2 a b x d k ++ pairOf (pt a b x d (k + 1)) := rfl
        rw [hxy] at hst hbx hnx
        unfold box at hbx
        dsimp only at hst hbx
        obtain ⟨⟨x3, x4⟩, y3, y4⟩ := hbx
        by_cases hyd : y = d
        · subst hyd
          have HE := Lib.hid (show k = steps a b x y by unfold steps at hst ⊢; omega)
          clear hnx hms hst hxy hk
          go_wp2_with fail
          go_ret
          exact ⟨_, rfl, by rw [← HE.out]; exact hown, hbe⟩
        · have HK := Lib.hid (show k < steps a b x d by unfold steps at hst ⊢; omega)
          obtain ⟨u, hu⟩ : ∃ u, u = y + sgn (d - y) := ⟨_, rfl⟩
          have hnu : pt a b x d (k + 1) = (x, u) := by rw [hnx, hu]; unfold stp; rw [if_pos rfl]
          have HNX := Lib.hid hnu
          have HMS := Lib.hid hms
          have hlk : k ≤ 4194304 := by have := HK.out; omega
          clear hnx hms hst hxy hnu hk
          rcases Int.lt_or_lt_of_ne hyd with hlt | hgt
          · have hux : u = y + 1 := by rw [hu, sgn_pos (by omega)]
            subst hux
            clear hu
            go_wp2_with (at_builtin; refine push2 rfl _ _ rfl rfl hown hbe _ _ rfl hlk ?_; intro v' w2 hown' hbe2)
            go_roundw
            case rel => exact ⟨k + 1, y + 1, HK.out, rfl, HNX.out, by rw [HMS.out, HNX.out]; exact hown', hbe2⟩
            case measure => rw [len_own hown, len_own hown']; have := HK.out; omega
          · have hux : u = y - 1 := by rw [hu, sgn_neg (by omega)]; omega
            subst hux
            clear hu
            go_wp2_with (at_builtin; refine push2 rfl _ _ rfl rfl hown hbe _ _ rfl hlk ?_; intro v' w2 hown' hbe2)
            go_roundw
            case rel => exact ⟨k + 1, y - 1, HK.out, rfl, HNX.out, by rw [HMS.out, HNX.out]; exact hown', hbe2⟩
            case measure => rw [len_own hown, len_own hown']; have := HK.out; omega
    · have HK := Lib.hid (show k < steps a b c d by unfold steps at hst ⊢; omega)
      obtain ⟨u, hu⟩ : ∃ u, u = x + sgn (c - x) := ⟨_, rfl⟩
      have hnu : pt a b c d (k + 1) = (u, b) := by rw [hnx, hu]; unfold stp; rw [if_neg hxc]
      have HNX := Lib.hid hnu
      have HMS := Lib.hid hms
      have hlk : k ≤ 4194304 := by have := HK.out; omega
      clear hnx hms hst hxy hnu hk
      rcases Int.lt_or_lt_of_ne hxc with hlt | hgt
      · have hux : u = x + 1 := by rw [hu, sgn_pos (by omega)]
        subst hux
        clear hu
        go_wp2_with (at_builtin; refine push2 rfl _ _ rfl rfl hown hbe _ _ rfl hlk ?_; intro v' w2 hown' hbe2)
        go_roundw
        case rel => exact ⟨k + 1, x + 1, HK.out, rfl, HNX.out, by rw [HMS.out, HNX.out]; exact hown', hbe2⟩
        case measure => rw [len_own hown, len_own hown']; have := HK.out; omega
      · have hux : u = x - 1 := by rw [hu, sgn_neg (by omega)]; omega
        subst hux
        clear hu
        go_wp2_with (at_builtin; refine push2 rfl _ _ rfl rfl hown hbe _ _ rfl hlk ?_; intro v' w2 hown' hbe2)
        go_roundw
        case rel => exact ⟨k + 1, x - 1, HK.out, rfl, HNX.out, by rw [HMS.out, HNX.out]; exact hown', hbe2⟩
        case measure => rw [len_own hown, len_own hown']; have := HK.out; omega
end Go.Proofs.Ytbghjaflcdapgaa.w1
