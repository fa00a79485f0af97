/-
  The law PoolInOrder returns true: the walk. No condition beyond that the list has its values.
-/
import Derived.Test.YtkamafkajfajpaaC6
namespace Go.Proofs.Ytkamafkajfajpaa.pp
open Go Go.RowKit
set_option linter.unusedVariables false

/-- The values vs lie behind the address, one a cell. -/
def At (w : World) (ad : Option Addr) (vs : List Value) : Prop := ∀ (k : Nat) x, vs[k]? = some x → ∃ b off, ad = some ⟨b, off, none⟩ ∧ w.cell? ⟨b, off + k, none⟩ = some x
theorem At.below {w w' : World} {ad : Option Addr} {vs : List Value} (h : At w ad vs) (hb : Below w.heap.size w w') : At w' ad vs := fun k x hk => by
  obtain ⟨b, off, rfl, hc⟩ := h k x hk
  exact ⟨b, off, rfl, (hb.cell (p := ⟨b, off + k, none⟩) (World.block_lt_of_cell? w _ hc)).trans hc⟩

/-- a, a + 1, .., n of them. -/
def sq (a n : Nat) : List Int := (List.range n).map fun j => ((a + j : Nat) : Int)
theorem sq_len (a n : Nat) : (sq a n).length = n := by simp [sq]
theorem sq_snoc (a n : Nat) : sq a n ++ [((a + n : Nat) : Int)] = sq a (n + 1) := by simp [sq, List.range_succ]
theorem sq_cons (a n : Nat) : sq a (n + 1) = (a : Int) :: sq (a + 1) n := by
  simp only [sq, List.range_succ_eq_map, List.map_cons, List.map_map]
  congr 1
  apply List.map_congr_left
  intro j _
  simp only [Function.comp]; omega
theorem sq_erase (a n : Nat) : (sq a (n + 1)).eraseIdx 0 = sq (a + 1) n := by rw [sq_cons]; rfl

/-- What one call on the pool in block b leaves of what was there ahead of a block B. -/
theorem Turn.on {B : Nat} {w0 w w' : World} {b : Nat} {v v' : Value} (hB : Below B w0 w) (hT : Turn w w' b v v') (hs : B ≤ w.heap.size) (hb : B ≤ b) (hv : ∀ k, v.ownBlock = some k → B ≤ k) : Below B w0 w' ∧ ∀ k, v'.ownBlock = some k → B ≤ k :=
  ⟨hB.trans (hT.below hs hb hv), hT.next.ge hs hv⟩

set_option maxHeartbeats 4000000 in
theorem order_some (room : Nat) (bs : List Bool) (ad : Option Addr) (len cap : Nat) (w : World) (hlen : len = bs.length) (hat : At w ad (bs.map Value.bool)) (h300 : len ≤ 300) (h1 : 1 ≤ room) (h2 : room ≤ 65536) :
    Calls Try.prog 7 #[.int .i64 (room : Int), .slice ad len cap] w fun e w' => e = .returned (.bool true) ∧ Below w.heap.size w w' := by
  have HN := Lib.hid (new_ok room w h1 h2)
  have HAT := Lib.hid hat
  have HL := Lib.hid hlen
  clear hat hlen
  go_enter Try.func7, Try.ntmps7
  go_wp2_with (go_at_call 11; ((with_reducible refine HN.out.mono ?_); rintro e w1 ⟨rfl, hw1⟩; have HP1 : Hid (IPool w1 w.heap.size (.slice none 0 0) room []) := Lib.hid (by rw [hw1]; exact ps.Pool.new w 63 3 room); have HB1 : Hid (Below w.heap.size w w1) := Lib.hid (by rw [hw1]; exact (Below.refl _ _).alloc (Nat.le_refl _) _); clear hw1))
  go_loopw [7, 8, 31] (fun n m i wr => ∃ (k a t : Nat) (v : Value), k ≤ len ∧ i = .int .i64 (k : Int) ∧ m = .int .i64 (a : Int) ∧ n = .int .i64 (t : Int) ∧ a ≤ t ∧ t ≤ k ∧ t - a ≤ room ∧ IPool wr w.heap.size v room (sq a (t - a)) ∧ Below w.heap.size w wr ∧ (∀ k, v.ownBlock = some k → w.heap.size ≤ k)) (fun _ _ i _ => len - (intOf i).toNat)
  case atStart =>
    exact ⟨0, 0, 0, _, Nat.zero_le _, rfl, rfl, rfl, Nat.le_refl _, Nat.le_refl _, Nat.zero_le _, HP1.out, HB1.out, fun k hk => by simp [Value.ownBlock] at hk⟩
  case round =>
    obtain ⟨k, a, t, v, hk, rfl, rfl, rfl, hat, htk, hqr, hp, hb, hv⟩ := hrel
    have HP := Lib.hid hp
    have HB := Lib.hid hb
    have HV := Lib.hid hv
    have hs := hb.size
    clear hp hb hv
    by_cases hlt : k < len
    · obtain ⟨x, hx⟩ : ∃ x, bs[k]? = some x := ⟨_, List.getElem?_eq_getElem (by have := HL.out; omega)⟩
      obtain ⟨g, off, rfl, hcell⟩ := (HAT.out.below HB.out) k (.bool x) (by simp [hx])
      clear hx
      cases x with
      | true =>
        by_cases hq : t - a < room
        · have hpu := put_ok _ _ room _ ((t : Nat) : Int) _ HP.out (by rw [sq_len]; exact hq) h2
          rw [show ((t : Nat) : Int) = ((a + (t - a) : Nat) : Int) by omega, sq_snoc, show ((a + (t - a) : Nat) : Int) = ((t : Nat) : Int) by omega, show t - a + 1 = t + 1 - a by omega] at hpu
          have HQ := Lib.hid hpu
          have hd : decide ((t : Int) - (a : Int) < (room : Int)) = true := by simp; omega
          clear hpu
          go_wp2_with (go_at_call 13; ((with_reducible refine HQ.out.mono ?_); rintro e w2 ⟨rfl, v2, hp2, ht2⟩; have HP2 := Lib.hid hp2; have HT2 := Lib.hid ht2; clear hp2 ht2))
          obtain ⟨hB2, hV2⟩ := Turn.on HB.out HT2.out hs (Nat.le_refl _) HV.out
          go_roundw
          case rel => exact ⟨k + 1, a, t + 1, v2, by omega, by go_num, rfl, by go_num, by omega, by omega, by omega, HP2.out, hB2, hV2⟩
          case measure => simp [intOf]; omega
        · have hpu := put_full _ _ room _ ((t : Nat) : Int) _ HP.out (by rw [sq_len]; omega) h2
          have HQ := Lib.hid hpu
          have hd : decide ((t : Int) - (a : Int) < (room : Int)) = false := by simp; omega
          clear hpu
          go_wp2_with (go_at_call 13; ((with_reducible refine HQ.out.mono ?_); rintro e w2 ⟨rfl, n2, hw2⟩; have HW2 := Lib.hid hw2; clear hw2))
          have hp2 : IPool w2 w.heap.size v room (sq a (t - a)) := by rw [HW2.out]; exact HP.out.drewN n2
          have hb2 : Below w.heap.size w w2 := by rw [HW2.out]; exact below_drewN HB.out n2
          go_roundw
          case rel => exact ⟨k + 1, a, t, v, by omega, by go_num, rfl, rfl, by omega, by omega, by omega, hp2, hb2, HV.out⟩
          case measure => simp [intOf]; omega
      | false =>
        by_cases hq : a < t
        · have hta : Calls Try.prog 9 #[.pointer (some ⟨w.heap.size, 0, none⟩), .int .i64 0] wr fun e w' => e = .returned (.tuple #[.int .i64 (a : Int), .int .i64 0]) ∧ ∃ v', IPool w' w.heap.size v' room (sq (a + 1) (t - (a + 1))) ∧ Turn wr w' w.heap.size v v' := by
            have hp := HP.out
            rw [show t - a = t - (a + 1) + 1 by omega] at hp
            have := take_in _ v room _ 0 (a : Int) wr hp (by rw [sq_cons]; rfl) (by rw [sq_len]; omega)
            rw [sq_erase] at this
            exact this
          have HQ := Lib.hid hta
          have hd : decide ((a : Int) < (t : Int)) = true := by simp; omega
          clear hta
          go_wp2_with (go_at_call 9; ((with_reducible refine HQ.out.mono ?_); rintro e w2 ⟨rfl, v2, hp2, ht2⟩; have HP2 := Lib.hid hp2; have HT2 := Lib.hid ht2; clear hp2 ht2))
          obtain ⟨hB2, hV2⟩ := Turn.on HB.out HT2.out hs (Nat.le_refl _) HV.out
          go_roundw
          case rel => exact ⟨k + 1, a + 1, t, v2, by omega, by go_num, by go_num, rfl, by omega, by omega, by omega, HP2.out, hB2, hV2⟩
          case measure => simp [intOf]; omega
        · have hta := take_out _ v room _ 0 wr HP.out (.inr (by rw [sq_len]; omega))
          have HQ := Lib.hid hta
          have hd : decide ((a : Int) < (t : Int)) = false := by simp; omega
          clear hta
          go_wp2_with (go_at_call 9; ((with_reducible refine HQ.out.mono ?_); rintro e w2 ⟨rfl, rfl⟩))
          go_roundw
          case rel => exact ⟨k + 1, a, t, v, by omega, by go_num, rfl, rfl, by omega, by omega, by omega, HP.out, HB.out, HV.out⟩
          case measure => simp [intOf]; omega
    · have hkn : k = len := by omega
      subst hkn
      have hle := len_any _ v room _ wr HP.out
      rw [sq_len, show (((t - a : Nat) : Nat) : Int) = (t : Int) - (a : Int) by omega] at hle
      have HQ := Lib.hid hle
      clear hle
      go_wp2_with (first
        | (go_at_call 14; ((with_reducible refine HQ.out.mono ?_); rintro e w2 ⟨rfl, rfl⟩))
        | (go_at_call 12; ((with_reducible refine (ps.works_any _).mono ?_); rintro e w2 ⟨rfl, hb2⟩)))
      go_ret
      exact ⟨rfl, HB.out.trans (hb2.mono hs)⟩

theorem order_true (room : Int) (bs : List Bool) (ad : Option Addr) (len cap : Nat) (w : World) (hlen : len = bs.length) (hat : At w ad (bs.map Value.bool)) :
    Calls Try.prog 7 #[.int .i64 room, .slice ad len cap] w fun e w' => e = .returned (.bool true) ∧ Below w.heap.size w w' := by
  by_cases h300 : len ≤ 300
  · by_cases hr : room < 1 ∨ 65536 < room
    · have HN := Lib.hid (new_err room w hr)
      clear hr hat hlen
      go_enter Try.func7, Try.ntmps7
      go_wp2_with (first
        | (go_at_call 11; ((with_reducible refine HN.out.mono ?_); rintro e w2 ⟨rfl, rfl⟩))
        | (go_at_call 12; ((with_reducible refine (ps.works_any _).mono ?_); rintro e w2 ⟨rfl, hb2⟩)))
      go_ret
      exact ⟨rfl, hb2⟩
    · obtain ⟨r, rfl⟩ : ∃ r : Nat, room = (r : Int) := ⟨room.toNat, by omega⟩
      exact order_some r bs ad len cap w hlen hat h300 (by omega) (by omega)
  · clear hat hlen
    go_enter Try.func7, Try.ntmps7
    go_wp2_with (go_at_call 12; ((with_reducible refine (ps.works_any _).mono ?_); rintro e w2 ⟨rfl, hb2⟩))
    go_ret
    exact ⟨rfl, hb2⟩
end Go.Proofs.Ytkamafkajfajpaa.pp
