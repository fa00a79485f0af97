/-
  What grid.Way, the document's own Way and Hops beside it, answer at whole numbers: contracts. No condition beyond the bounds that each theorem names.
-/
import Derived.Test.YtbghjaflcdapgaaW1
namespace Go.Proofs.Ytbghjaflcdapgaa.w1
open Go.ChangeShapes Go.WideShapes Go.ChangeAt Go.RowKit
open Go.Proofs.Ytbghjaflcdapgaa.Fp

/-- one hop nearer to (c, d) -/
def stp (c d : Int) (p : Int × Int) : Int × Int := if p.1 = c then (p.1, p.2 + sgn (d - p.2)) else (p.1 + sgn (c - p.1), p.2)
/-- behind k hops -/
def pt (a b c d : Int) : Nat → Int × Int
  | 0 => (a, b)
  | k + 1 => stp c d (pt a b c d k)
def steps (a b c d : Int) : Nat := (c - a).natAbs + (d - b).natAbs
def cellOf (p : Int × Int) : Value := .complex .f64 (F p.1) (F p.2)
def met (a b c d : Int) (k : Nat) : List Value := (List.range k).map fun i => cellOf (pt a b c d (i + 1))

theorem met_len (a b c d : Int) (k : Nat) : (met a b c d k).length = k := by simp [met]
theorem met_succ (a b c d : Int) (k : Nat) : met a b c d (k + 1) = met a b c d k ++ [cellOf (pt a b c d (k + 1))] := by
  simp [met, List.range_succ]

theorem sgn_cases (n : Int) : (n < 0 ∧ sgn n = -1) ∨ (0 ≤ n ∧ sgn n = 1) := by
  unfold sgn; by_cases h : n < 0
  · left; exact ⟨h, if_pos h⟩
  · right; exact ⟨by omega, if_neg h⟩

theorem stp_steps (c d : Int) (p : Int × Int) (h : 0 < steps p.1 p.2 c d) : steps (stp c d p).1 (stp c d p).2 c d + 1 = steps p.1 p.2 c d := by
  unfold steps at h ⊢
  unfold stp
  by_cases hc : p.1 = c
  · rw [if_pos hc]
    rcases sgn_cases (d - p.2) with ⟨h1, h2⟩ | ⟨h1, h2⟩ <;> rw [h2] <;> dsimp only <;> omega
  · rw [if_neg hc]
    rcases sgn_cases (c - p.1) with ⟨h1, h2⟩ | ⟨h1, h2⟩ <;> rw [h2] <;> dsimp only <;> omega

theorem pt_steps (a b c d : Int) : ∀ k, k ≤ steps a b c d → steps (pt a b c d k).1 (pt a b c d k).2 c d + k = steps a b c d
  | 0, _ => by simp [pt]
  | k + 1, h => by
    have ih := pt_steps a b c d k (by omega)
    have := stp_steps c d (pt a b c d k) (by omega)
    show steps (stp c d (pt a b c d k)).1 (stp c d (pt a b c d k)).2 c d + (k + 1) = _
    omega

def box (p : Int × Int) : Prop := (-1048576 ≤ p.1 ∧ p.1 ≤ 1048576) ∧ (-1048576 ≤ p.2 ∧ p.2 ≤ 1048576)

theorem stp_box (c d : Int) (p : Int × Int) (h : 0 < steps p.1 p.2 c d) (hp : box p) (hq : box (c, d)) : box (stp c d p) := by
  unfold steps at h
  unfold box at *
  unfold stp
  by_cases hc : p.1 = c
  · rw [if_pos hc]
    rcases sgn_cases (d - p.2) with ⟨h1, h2⟩ | ⟨h1, h2⟩ <;> rw [h2] <;> dsimp only at * <;> omega
  · rw [if_neg hc]
    rcases sgn_cases (c - p.1) with ⟨h1, h2⟩ | ⟨h1, h2⟩ <;> rw [h2] <;> dsimp only at * <;> omega

theorem pt_box (a b c d : Int) (hp : box (a, b)) (hq : box (c, d)) : ∀ k, k ≤ steps a b c d → box (pt a b c d k)
  | 0, _ => hp
  | k + 1, h => by
    have := pt_steps a b c d k (by omega)
    exact stp_box c d _ (by omega) (pt_box a b c d hp hq k (by omega)) hq

/-- Two numbers that are not one. -/
theorem ne_F (x y : Int) (h : x ≠ y) (hx : x.natAbs < 2 ^ 53) (hy : y.natAbs < 2 ^ 53) : (FloatKind.f64.format.order (F x) (F y) == some .eq) = false := by
  rw [dbl, order_F x y hx hy]
  simp only [compare, compareOfLessAndEq]
  by_cases hl : x < y
  · rw [if_pos hl]; rfl
  · rw [if_neg hl, if_neg h]; rfl
theorem cneq_same (P : Program) (t : TypeId) (x y : Int) (hx : x.natAbs < 2 ^ 53) (hy : y.natAbs < 2 ^ 53) (w : World) :
    (binOp .neq t (.complex .f64 (F x) (F y)) (.complex .f64 (F x) (F y))).run P w = .ok (.bool false) w := by
  rw [run_neq_complex, eq_F x hx, eq_F y hy]; rfl
theorem cneq_other (P : Program) (t : TypeId) (x y u v : Int) (h : ¬ (x = u ∧ y = v)) (hx : x.natAbs < 2 ^ 53) (hy : y.natAbs < 2 ^ 53) (hu : u.natAbs < 2 ^ 53) (hv : v.natAbs < 2 ^ 53) (w : World) :
    (binOp .neq t (.complex .f64 (F x) (F y)) (.complex .f64 (F u) (F v))).run P w = .ok (.bool true) w := by
  rw [run_neq_complex]
  by_cases hxu : x = u
  · have hyv : y ≠ v := fun e => h ⟨hxu, e⟩
    rw [ne_F y v hyv hy hv, Bool.and_false]; rfl
  · rw [ne_F x u hxu hx hu]; rfl

theorem box_inB {p : Int × Int} (h : box p) : inB p.1 = true ∧ inB p.2 = true := by
  unfold box at h
  exact ⟨by simp [inB]; exact h.1, by simp [inB]; exact h.2⟩

/-- firstHop -/
theorem hop_any (x y c d : Int) (w : World) (hp : box (x, y)) (hq : box (c, d)) :
    Calls Try.prog 18 #[.complex .f64 (F x) (F y), .complex .f64 (F c) (F d)] w fun e w' =>
      e = .returned (.complex .f64 (F ((stp c d (x, y)).1 - x)) (F ((stp c d (x, y)).2 - y))) ∧ w = w' := by
  have hs := csub Try.prog 22 c d x y (box_inB hq).1 (box_inB hq).2 (box_inB hp).1 (box_inB hp).2 w
  unfold box at hp hq
  dsimp only at hp hq
  by_cases hc : x = c
  · subst hc
    have e1 : (stp x d (x, y)).1 - x = 0 := by unfold stp; rw [if_pos rfl]; dsimp only; omega
    have e2 : (stp x d (x, y)).2 - y = sgn (d - y) := by unfold stp; rw [if_pos rfl]; dsimp only; omega
    rw [e1, e2]
    have ez : x - x = 0 := by omega
    rw [ez, ← z_F] at hs
    have g : (FloatKind.f64.format.order 0 0 != some .eq) = false := by decide +kernel
    rw [← z_F]
    clear hp hq e1 e2 ez
    go_enter Try.func18, Try.ntmps18
    go_wp2_with (go_at_call 22; ((with_reducible refine (sign_any (d - y) _).mono ?_); rintro e w' ⟨rfl, rfl⟩))
    go_ret
    exact ⟨rfl, rfl⟩
  · have e1 : (stp c d (x, y)).1 - x = sgn (c - x) := by unfold stp; rw [if_neg hc]; dsimp only; omega
    have e2 : (stp c d (x, y)).2 - y = 0 := by unfold stp; rw [if_neg hc]; dsimp only; omega
    rw [e1, e2]
    have g : (FloatKind.f64.format.order (F (c - x)) 0 != some .eq) = true := by
      have := ne_F (c - x) 0 (by omega) (by omega) (by omega)
      rw [← z_F] at this
      rw [bne, this]; rfl
    rw [← z_F]
    clear hp hq e1 e2 hc
    go_enter Try.func18, Try.ntmps18
    go_wp2_with (go_at_call 22; ((with_reducible refine (sign_any (c - x) _).mono ?_); rintro e w' ⟨rfl, rfl⟩))
    go_ret
    exact ⟨rfl, rfl⟩

theorem dist_steps (a b c d : Int) : dist a b c d = ((steps a b c d : Nat) : Int) := by unfold dist steps; omega

theorem Try.info22 : (Try.prog.info? 22).map (fun i => (i.zero, i.size, i.bytes)) = some (some (.complex .f64 0 0), 1, 16) := by kernel_rfl
theorem Try.info41 : (Try.prog.info? 41).map (fun i => (i.zero, i.size, i.bytes)) = some (some (.agg #[.int .i64 0, .int .i64 0]), 2, 16) := by kernel_rfl

/-- Way where one is no place -/
theorem way_none (a b c d : Int) (w : World) (ha : i64 a) (hb : i64 b) (hc : i64 c) (hd : i64 d) (hn : ((inB a && inB b) && (inB c && inB d)) = false) :
    Calls Try.prog 8 #[.complex .f64 (F a) (F b), .complex .f64 (F c) (F d)] w fun e w' => e = .returned (.tuple #[.slice none 0 0, .int .i64 2]) ∧ w = w' := by
  have hh := Lib.hid (hops_no a b c d w ha hb hc hd hn)
  clear ha hb hc hd hn
  go_enter Try.func8, Try.ntmps8
  go_wp2_with (go_at_call 12; ((with_reducible refine hh.out.mono ?_); rintro e w' ⟨rfl, rfl⟩))
  go_ret2
  exact ⟨rfl, rfl⟩

theorem way_far (a b c d : Int) (w : World) (hp : box (a, b)) (hq : box (c, d)) (hf : 4096 < steps a b c d) :
    Calls Try.prog 8 #[.complex .f64 (F a) (F b), .complex .f64 (F c) (F d)] w fun e w' => e = .returned (.tuple #[.slice none 0 0, .int .i64 5]) ∧ w = w' := by
  have hh := hops_yes a b c d w (box_inB hp).1 (box_inB hp).2 (box_inB hq).1 (box_inB hq).2
  rw [dist_steps] at hh
  have HH := Lib.hid hh
  clear hh hp hq
  go_enter Try.func8, Try.ntmps8
  go_wp2_with (go_at_call 12; ((with_reducible refine HH.out.mono ?_); rintro e w' ⟨rfl, rfl⟩))
  go_ret2
  exact ⟨rfl, rfl⟩

def lenOf : Value → Nat
  | .slice _ n _ => n
  | _ => 0
theorem len_own {w : World} {base : Nat} {e : TypeId} {size : Nat} {v : Value} {n : Nat} {xs : List Value} (h : w.ownsRow base e size v n xs) : lenOf v = n := by
  rcases h.2 with ⟨rfl, rfl⟩ | ⟨g, cap, cur, rfl, _⟩ <;> rfl
theorem own_block {w : World} {base : Nat} {e : TypeId} {size : Nat} {v : Value} {n : Nat} {xs : List Value} (h : w.ownsRow base e size v n xs) : ∀ k, v.ownBlock = some k → base ≤ k := fun k hk => (h.lt k hk).1

theorem sub_add_run (t : TypeId) (x y u v : Int) (hx : box (x, y)) (hu : box (u, v)) (w : World) :
    (binOp .add t (.complex .f64 (F x) (F y)) (.complex .f64 (F (u - x)) (F (v - y)))).run Try.prog w = .ok (.complex .f64 (F u) (F v)) w := by
  unfold box at hx hu
  dsimp only at hx hu
  have := cadd Try.prog t x y (u - x) (v - y) (by omega) (by omega) (by omega) (by omega) w
  rw [show x + (u - x) = u by omega, show y + (v - y) = v by omega] at this
  exact this

set_option maxHeartbeats 800000 in
theorem way_yes (a b c d : Int) (w : World) (hp : box (a, b)) (hq : box (c, d)) (hf : steps a b c d ≤ 4096) :
    Calls Try.prog 8 #[.complex .f64 (F a) (F b), .complex .f64 (F c) (F d)] w fun e w' => ∃ v, e = .returned (.tuple #[v, .int .i64 0]) ∧ w'.ownsRow w.heap.size 22 1 v (steps a b c d) (met a b c d (steps a b c d)) ∧ Below w.heap.size w w' := by
  have hh := hops_yes a b c d w (box_inB hp).1 (box_inB hp).2 (box_inB hq).1 (box_inB hq).2
  rw [dist_steps] at hh
  have HH := Lib.hid hh
  have HP := Lib.hid hp
  have HQ := Lib.hid hq
  have hnf : ¬ (4096 : Int) < (steps a b c d : Int) := by omega
  obtain ⟨i0, hi, hz0, hz1, hz2⟩ := info_parts Try.info22
  clear hh hp hq
  go_enter Try.func8, Try.ntmps8
  go_wp2_with (first
    | (go_at_call 12; ((with_reducible refine HH.out.mono ?_); rintro e w' ⟨rfl, rfl⟩))
    | (at_make; refine wpList_make_own _ rfl _ _ 27 rfl w.heap.size 22 i0 (.complex .f64 0 0) 1 Try.underlying27 hi hz0 hz1 _ _ _ (steps a b c d) rfl rfl rfl (by rw [hz2]; omega) (by unfold maxLen; omega) (Nat.le_refl _) ?_))
  intro w1 hown1 hgrow1
  have hb1 : Below w.heap.size w w1 := (Below.refl _ _).grown hgrow1 (Nat.le_refl _) (by intro k hk; cases hk)
  clear hgrow1
  go_wp2_with fail
  go_loopw [8, 9] (fun v z wr => ∃ k : Nat, k ≤ steps a b c d ∧ z = cellOf (pt a b c d k) ∧ wr.ownsRow w.heap.size 22 1 v k (met a b c d k) ∧ Below w.heap.size w wr) (fun v _ _ => steps a b c d - lenOf v)
  case atStart => exact ⟨0, Nat.zero_le _, rfl, hown1, hb1⟩
  case round =>
    obtain ⟨k, hk, rfl, hown, hbe⟩ := hrel
    clear hown1 hb1
    have hst := pt_steps a b c d k hk
    have hbx := pt_box a b c d HP.out HQ.out k hk
    obtain ⟨x, y, hxy⟩ : ∃ x y, pt a b c d k = (x, y) := ⟨_, _, rfl⟩
    have hz : cellOf (pt a b c d k) = .complex .f64 (F x) (F y) := by rw [hxy]; rfl
    rw [hxy] at hst hbx
    rw [hz]
    have hcd := HQ.out
    unfold box at hcd
    dsimp only at hcd hst
    have hxb := hbx
    unfold box at hxb
    dsimp only at hxb
    by_cases hlast : k = steps a b c d
    · have hxc : x = c := by unfold steps at hst hlast; omega
      have hyd : y = d := by unfold steps at hst hlast; omega
      subst hxc hyd
      have hne := cneq_same Try.prog 22 x y (by omega) (by omega) wr
      have HL := Lib.hid hlast
      clear hlast hst hbx hcd hxb hxy hz hk
      go_wp2_with fail
      go_ret2
      exact ⟨_, rfl, by rw [← HL.out]; exact hown, hbe⟩
    · have hne := cneq_other Try.prog 22 x y c d (by rintro ⟨rfl, rfl⟩; unfold steps at hst hlast; omega) (by omega) (by omega) (by omega) (by omega) wr
      have hnb : box (stp c d (x, y)) := stp_box c d (x, y) (by dsimp only; omega) hbx HQ.out
      have hnx : pt a b c d (k + 1) = stp c d (x, y) := by show stp c d (pt a b c d k) = _; rw [hxy]
      have HH1 := Lib.hid (hop_any x y c d wr hbx HQ.out)
      obtain ⟨u, v, huv⟩ : ∃ u v, stp c d (x, y) = (u, v) := ⟨_, _, rfl⟩
      rw [huv] at HH1 hnb hnx
      have hadd := sub_add_run 22 x y u v hbx hnb wr
      have HK := Lib.hid (show k < steps a b c d by omega)
      have HNX := Lib.hid hnx
      have hms := met_succ a b c d k
      have HMS := Lib.hid hms
      clear hlast hst hbx hcd hxb hxy hz hk hnb hnx huv hms
      have hlk : k ≤ 4096 := by have := HK.out; omega
      go_wp2_with (first
        | (go_at_call 18; ((with_reducible refine HH1.out.mono ?_); rintro e w' ⟨rfl, rfl⟩))
        | (at_builtin; refine wpList_append_own _ rfl _ _ 27 rfl w.heap.size 22 i0 (.complex .f64 0 0) 1 16 Try.underlying27 hi hz0 hz1 hz2 rfl (by decide) _ _ _ rfl (hown.alloc _) ⟨wr.heap.size, 0, none⟩ 1 1 [.complex .f64 (F u) (F v)] rfl rfl ?c1 ?c2 ?c3 ?c4 ?c5 ?_))
      case c1 =>
        intro j q hj
        match j, hj with
        | 0, hj => simp at hj; subst hj; simp [Addr.add]
      case c2 => intro q hq; simp at hq; subst hq; rfl
      case c3 => unfold maxLen; omega
      case c4 => omega
      case c5 => have := hbe.size; simp; omega
      · intro v' w2 hown' hgrow _
        have hbe2 : Below w.heap.size w w2 := (hbe.alloc hbe.size _).grown hgrow (by have := hbe.size; simp; omega) (own_block hown)
        clear hgrow
        go_wp2_with fail
        go_roundw
        case rel => exact ⟨k + 1, HK.out, by rw [HNX.out]; rfl, by rw [HMS.out, HNX.out]; exact hown', hbe2⟩
        case measure => rw [len_own hown, len_own hown']; have := HK.out; omega
end Go.Proofs.Ytbghjaflcdapgaa.w1
