/-
  What the document's own Set, Place, Free, Used answer: contracts. Condition: the bounds that each theorem names.
-/
import Derived.Test.YtjbapfjeildfoaaDoorC21
import Derived.Test.YtjbapfjeildfoaaDoorP2
namespace Go.Proofs.YtjbapfjeildfoaaDoor.kk
open Go Go.ChangeShapes Go.WideShapes Go.ChangeAt Go.RowKit Go.Shelf
set_option linter.unusedVariables false

theorem rset_any (c : Cfg) (b : Int) (w : World) (hm : c.may) : Calls Tryd.prog 59 #[.agg c.cells, .int .i64 b] w fun e w' => e = .returned (.int .i64 (setOf c b : Nat)) ∧ w.grownBy w' none := by
  by_cases h : b < 0
  · refine (rset_neg c b w hm h).mono ?_
    rintro e w' ⟨rfl, hg⟩
    exact ⟨by rw [setOf, if_pos h]; rfl, hg⟩
  · refine (rset_in c b w hm (by omega)).mono ?_
    rintro e w' ⟨rfl, hg⟩
    have h2 := Int.emod_nonneg b (show c.se ≠ 0 by have := hm.sets; omega)
    exact ⟨by rw [setOf, if_neg h, Int.toNat_of_nonneg h2], hg⟩
theorem ix_up {p : Ln → Bool} {ls : List Ln} {k : Nat} (h : ∀ (j : Nat) x, j < k → ls[j]? = some x → p x = false) {x : Ln} (hx : ls[k]? = some x) (hp : p x = false) : ∀ (j : Nat) y, j < k + 1 → ls[j]? = some y → p y = false := fun j y hj hy => by
  by_cases hjk : j = k
  · subst hjk
    rw [hx] at hy; cases hy; exact hp
  · exact h j y (by omega) hy
theorem Rac.n64 {w : World} {R : RLoc} {c : Cfg} {ss : List St} (h : Rac w R c ss) : (rowAll ss).length ≤ 64 := by
  have h1 := h.may.sets
  have h2 := h.may.ways
  have h3 := h.len
  rw [h.flen]
  have h4 : ss.length ≤ 16 := by omega
  have h5 : c.wa.toNat ≤ 4 := by omega
  calc ss.length * c.wa.toNat ≤ 16 * 4 := Nat.mul_le_mul h4 h5
    _ = 64 := rfl
section
variable (R : RLoc) (c : Cfg) (ss : List St) (w : World) (hR : Rac w R c ss)
include hR
set_option maxHeartbeats 1000000 in
theorem rplace_any (b : Int) : Calls Tryd.prog 56 #[.pointer (some ⟨R.b, 0, none⟩), .int .i64 b] w fun e w' => e = .returned (.int .i64 (ix (isOf b) (rowAll ss))) ∧ w = w' := by
  obtain ⟨n, hn⟩ : ∃ n, n = (rowAll ss).length := ⟨_, rfl⟩
  have c8 := hR.lines
  rw [← hn] at c8
  have hn64 : n ≤ 64 := by rw [hn]; exact hR.n64
  have HN := Lib.hid hn
  have HR := Lib.hid hR.row
  clear hn hR
  go_enter Tryd.func56, Tryd.ntmps56
  go_wp2
  go_loopw [5] (fun i wr => ∃ k : Nat, k ≤ n ∧ i = .int .i64 (k : Int) ∧ w = wr ∧ ∀ (j : Nat) x, j < k → (rowAll ss)[j]? = some x → isOf b x = false) (fun i _ => n - (intOf i).toNat)
  case atStart => exact ⟨0, Nat.zero_le _, rfl, rfl, fun j x hj => by omega⟩
  case round =>
    obtain ⟨k, hk, rfl, rfl, hno⟩ := hrel
    have HNO := Lib.hid hno
    clear hno
    by_cases hlt : k < n
    · have hw1 : wrap64 ((k : Int) + 1) = (k : Int) + 1 := w64 _ (by omega) (by omega)
      obtain ⟨l, hll⟩ : ∃ l, (rowAll ss)[k]? = some l := ⟨_, List.getElem?_eq_getElem (by have := HN.out; omega)⟩
      have HLL := Lib.hid hll
      have d0 := HR.out.at_ k l hll 0 _ (ln0 l)
      have d1 := HR.out.at_ k l hll 1 _ (ln1 l)
      rw [Nat.add_zero] at d0
      clear hll
      by_cases hs : l.s = 0
      · have es : (l.s != 0) = false := by simp [hs]
        have HQ : Hid (isOf b l = false) := Lib.hid (by simp [isOf, hs])
        clear hs
        go_wp2
        go_roundw
        case rel => exact ⟨k + 1, by omega, by go_num, by simp, ix_up HNO.out HLL.out HQ.out⟩
        case measure => simp [intOf]; omega
      · have es : (l.s != 0) = true := by simp [hs]
        by_cases hb : l.b = b
        · have eb : (l.b == b) = true := by simp [hb]
          have HQ : Hid (isOf b l = true) := Lib.hid (by simp [isOf, hs, hb])
          clear hs hb
          go_wp2
          go_ret
          exact ⟨by rw [ix_hit (isOf b) _ k l HLL.out HQ.out HNO.out]; rfl, rfl⟩
        · have eb : (l.b == b) = false := by simp [hb]
          have HQ : Hid (isOf b l = false) := Lib.hid (by simp [isOf, hb])
          clear hs hb
          go_wp2
          go_roundw
          case rel => exact ⟨k + 1, by omega, by go_num, by simp, ix_up HNO.out HLL.out HQ.out⟩
          case measure => simp [intOf]; omega
    · obtain rfl : k = n := by omega
      clear hlt hk
      go_wp2
      go_ret
      exact ⟨by rw [ix_miss (isOf b) _ (fun j x hx => HNO.out j x (by have := (List.getElem?_eq_some_iff.1 hx).1; have := HN.out; omega) hx)]; rfl, rfl⟩
end
end Go.Proofs.YtjbapfjeildfoaaDoor.kk
