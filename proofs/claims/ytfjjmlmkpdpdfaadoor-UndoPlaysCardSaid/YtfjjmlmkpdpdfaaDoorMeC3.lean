/-
  What Word, SetWord answer, and what the memory is behind them: contracts. No condition but the bounds that each theorem names.
-/
import Derived.Test.YtfjjmlmkpdpdfaaDoorMeC2
namespace Go.Proofs.YtfjjmlmkpdpdfaaDoor.pp
open Go Go.ChangeShapes Go.WideShapes Go.ChangeAt Go.RowKit
set_option linter.unusedVariables false

theorem grown_row {w w1 : World} {c : List Int} (h : w1 = w.alloc (.cells (row c) 56)) : w.grownBy w1 none := by rw [h]; exact grown_alloc (grown_refl _ _) _

theorem word_nil (i k : Int) (w : World) : Calls Tryd.prog 13 #[.pointer none, .int .i64 i, .int .i64 k] w fun e w' => e = .returned (.tuple #[.int .u32 0, .int .i64 1]) ∧ w.grownBy w' none := by
  have HB := Lib.hid (block_nil i w)
  go_enter Tryd.func13, Tryd.ntmps13
  go_wp2_with (first
    | (go_at_call 26; ((with_reducible refine HB.out.mono ?_); rintro e w1 ⟨rfl, hw1⟩; have HW := Lib.hid (grown_row hw1); clear hw1))
    | ((with_reducible refine store_new' zero 8 14 ?_ ?_ zero_size ?_); (rfl); (rfl)))
  go_ret2
  exact ⟨rfl, grown_alloc HW.out _⟩

theorem word_out (b : Nat) (v : Value) (bs : List (List Int)) (i k : Int) (w : World) (hM : Mem w b v bs) (h : i < 0 ∨ (bs.length : Int) ≤ i) : Calls Tryd.prog 13 #[.pointer (some ⟨b, 0, none⟩), .int .i64 i, .int .i64 k] w fun e w' => e = .returned (.tuple #[.int .u32 0, .int .i64 5]) ∧ w.grownBy w' none := by
  have HB := Lib.hid (block_out b v bs i w hM h)
  clear hM h
  go_enter Tryd.func13, Tryd.ntmps13
  go_wp2_with (first
    | (go_at_call 26; ((with_reducible refine HB.out.mono ?_); rintro e w1 ⟨rfl, hw1⟩; have HW := Lib.hid (grown_row hw1); clear hw1))
    | ((with_reducible refine store_new' zero 8 14 ?_ ?_ zero_size ?_); (rfl); (rfl)))
  go_ret2
  exact ⟨rfl, grown_alloc HW.out _⟩

theorem word_bad (b : Nat) (v : Value) (bs : List (List Int)) (i : Nat) (k : Int) (w : World) (hM : Mem w b v bs) (hi : i < bs.length) (h : ¬ (0 ≤ k ∧ k < 16)) : Calls Tryd.prog 13 #[.pointer (some ⟨b, 0, none⟩), .int .i64 (i : Int), .int .i64 k] w fun e w' => e = .returned (.tuple #[.int .u32 0, .int .i64 5]) ∧ w.grownBy w' none := by
  obtain ⟨x, hx⟩ : ∃ x, bs[i]? = some x := ⟨_, List.getElem?_eq_getElem hi⟩
  have HL := Lib.hid (hM.len x (List.mem_of_getElem? hx))
  have HB := Lib.hid (block_in b v bs i x w hM hx)
  have HI : Hid (∀ w, Calls Tryd.prog 37 #[.int .i64 k] w fun e w' => e = .returned (.bool false) ∧ w = w') := Lib.hid fun w => by
    have := isWord_any k w
    rwa [decide_eq_false h] at this
  clear hM h hi hx
  go_enter Tryd.func13, Tryd.ntmps13
  go_wp2_with (first
    | (go_at_call 26; ((with_reducible refine HB.out.mono ?_); rintro e w1 ⟨rfl, hw1⟩; have HW := Lib.hid (grown_row hw1); clear hw1))
    | (go_at_call 37; ((with_reducible refine (HI.out _).mono ?_); rintro e w2 ⟨rfl, rfl⟩))
    | ((with_reducible refine store_new' x 8 14 ?_ ?_ HL.out ?_); (rfl); (rfl)))
  go_ret2
  exact ⟨rfl, grown_alloc HW.out _⟩

theorem word_in (b : Nat) (v : Value) (bs : List (List Int)) (i k : Nat) (x : List Int) (y : Int) (w : World) (hM : Mem w b v bs) (hx : bs[i]? = some x) (hy : x[k]? = some y) : Calls Tryd.prog 13 #[.pointer (some ⟨b, 0, none⟩), .int .i64 (i : Int), .int .i64 (k : Int)] w fun e w' => e = .returned (.tuple #[.int .u32 y, .int .i64 0]) ∧ w.grownBy w' none := by
  have HL := Lib.hid (hM.len x (List.mem_of_getElem? hx))
  have HB := Lib.hid (block_in b v bs i x w hM hx)
  have hk : k < 16 := by rw [← HL.out]; exact (List.getElem?_eq_some_iff.1 hy).1
  have HI : Hid (∀ w, Calls Tryd.prog 37 #[.int .i64 (k : Int)] w fun e w' => e = .returned (.bool true) ∧ w = w') := Lib.hid fun w => by
    have := isWord_any k w
    rwa [decide_eq_true (by omega)] at this
  have hr : (row x)[k]? = some (.int .u32 y) := by rw [row_get, hy]; rfl
  clear hM hx hy
  go_enter Tryd.func13, Tryd.ntmps13
  go_wp2_with (first
    | (go_at_call 26; ((with_reducible refine HB.out.mono ?_); rintro e w1 ⟨rfl, hw1⟩; have HW := Lib.hid (grown_row hw1); clear hw1))
    | (go_at_call 37; ((with_reducible refine (HI.out _).mono ?_); rintro e w2 ⟨rfl, rfl⟩))
    | ((with_reducible refine store_new' x 8 14 ?_ ?_ HL.out ?_); (rfl); (rfl)))
  go_ret2
  exact ⟨rfl, grown_alloc HW.out _⟩

theorem set_word_nil (i k y : Int) (w : World) : Calls Tryd.prog 28 #[.pointer none, .int .i64 i, .int .i64 k, .int .u32 y] w fun e w' => e = .returned (.int .i64 1) ∧ w.grownBy w' none := by
  have HB := Lib.hid (block_nil i w)
  go_enter Tryd.func28, Tryd.ntmps28
  go_wp2_with (first
    | (go_at_call 26; ((with_reducible refine HB.out.mono ?_); rintro e w1 ⟨rfl, hw1⟩; have HW := Lib.hid (grown_row hw1); clear hw1))
    | ((with_reducible refine store_new' zero 9 15 ?_ ?_ zero_size ?_); (rfl); (rfl)))
  go_ret
  exact ⟨rfl, grown_alloc HW.out _⟩

theorem set_word_out (b : Nat) (v : Value) (bs : List (List Int)) (i k y : Int) (w : World) (hM : Mem w b v bs) (h : i < 0 ∨ (bs.length : Int) ≤ i) : Calls Tryd.prog 28 #[.pointer (some ⟨b, 0, none⟩), .int .i64 i, .int .i64 k, .int .u32 y] w fun e w' => e = .returned (.int .i64 5) ∧ w.grownBy w' none := by
  have HB := Lib.hid (block_out b v bs i w hM h)
  clear hM h
  go_enter Tryd.func28, Tryd.ntmps28
  go_wp2_with (first
    | (go_at_call 26; ((with_reducible refine HB.out.mono ?_); rintro e w1 ⟨rfl, hw1⟩; have HW := Lib.hid (grown_row hw1); clear hw1))
    | ((with_reducible refine store_new' zero 9 15 ?_ ?_ zero_size ?_); (rfl); (rfl)))
  go_ret
  exact ⟨rfl, grown_alloc HW.out _⟩

theorem set_word_bad (b : Nat) (v : Value) (bs : List (List Int)) (i : Nat) (k y : Int) (w : World) (hM : Mem w b v bs) (hi : i < bs.length) (h : ¬ (0 ≤ k ∧ k < 16)) : Calls Tryd.prog 28 #[.pointer (some ⟨b, 0, none⟩), .int .i64 (i : Int), .int .i64 k, .int .u32 y] w fun e w' => e = .returned (.int .i64 5) ∧ w.grownBy w' none := by
  obtain ⟨x, hx⟩ : ∃ x, bs[i]? = some x := ⟨_, List.getElem?_eq_getElem hi⟩
  have HL := Lib.hid (hM.len x (List.mem_of_getElem? hx))
  have HB := Lib.hid (block_in b v bs i x w hM hx)
  have HI : Hid (∀ w, Calls Tryd.prog 37 #[.int .i64 k] w fun e w' => e = .returned (.bool false) ∧ w = w') := Lib.hid fun w => by
    have := isWord_any k w
    rwa [decide_eq_false h] at this
  clear hM h hi hx
  go_enter Tryd.func28, Tryd.ntmps28
  go_wp2_with (first
    | (go_at_call 26; ((with_reducible refine HB.out.mono ?_); rintro e w1 ⟨rfl, hw1⟩; have HW := Lib.hid (grown_row hw1); clear hw1))
    | (go_at_call 37; ((with_reducible refine (HI.out _).mono ?_); rintro e w2 ⟨rfl, rfl⟩))
    | ((with_reducible refine store_new' x 9 15 ?_ ?_ HL.out ?_); (rfl); (rfl)))
  go_ret
  exact ⟨rfl, grown_alloc HW.out _⟩

theorem set_word_in (b : Nat) (v : Value) (bs : List (List Int)) (i k : Nat) (x : List Int) (y : Int) (w : World) (hM : Mem w b v bs) (hx : bs[i]? = some x) (hk : k < 16) : Calls Tryd.prog 28 #[.pointer (some ⟨b, 0, none⟩), .int .i64 (i : Int), .int .i64 (k : Int), .int .u32 y] w fun e w' => e = .returned (.int .i64 0) ∧ Mem w' b v (bs.set i (x.set k y)) ∧ w.grownBy w' v.ownBlock := by
  have HL := Lib.hid (hM.len x (List.mem_of_getElem? hx))
  have HB := Lib.hid (block_in b v bs i x w hM hx)
  have HI : Hid (∀ w, Calls Tryd.prog 37 #[.int .i64 (k : Int)] w fun e w' => e = .returned (.bool true) ∧ w = w') := Lib.hid fun w => by
    have := isWord_any k w
    rwa [decide_eq_true (by omega)] at this
  obtain ⟨z, hz⟩ : ∃ z, x[k]? = some z := ⟨_, List.getElem?_eq_getElem (by rw [HL.out]; exact hk)⟩
  have hr : (row x)[k]? = some (.int .u32 z) := by rw [row_get, hz]; rfl
  have HS : Hid ((row x).setIfInBounds k (.int .u32 y) = row (x.set k y)) := Lib.hid (row_set x k y)
  have HL2 : Hid ((x.set k y).length = 16) := Lib.hid (by simp [HL.out])
  have HM := Lib.hid hM
  have HJ := Lib.hid (List.getElem?_eq_some_iff.1 hx).1
  clear hM hx hz
  go_enter Tryd.func28, Tryd.ntmps28
  go_wp2_with (first
    | (go_at_call 26; ((with_reducible refine HB.out.mono ?_); rintro e w1 ⟨rfl, hw1⟩; have HW := Lib.hid (grown_row hw1); clear hw1))
    | (go_at_call 37; ((with_reducible refine (HI.out _).mono ?_); rintro e w2 ⟨rfl, rfl⟩))
    | (go_at_call 41; ((with_reducible refine (set_block_in b v bs i (x.set k y) HL2.out _ (HM.out.kept (grown_alloc HW.out _)) HJ.out).mono ?_); rintro e w3 ⟨rfl, hm3, hg3⟩; have HM3 := Lib.hid hm3; have HG3 := Lib.hid (grown_trans (grown_some (grown_alloc HW.out _) _) hg3); clear hm3 hg3))
    | ((with_reducible refine store_new' x 9 15 ?_ ?_ HL.out ?_); (rfl); (rfl))
    | (rw [HS.out]; (with_reducible refine load_any (x.set k y) 9 w1.heap.size ?_ ?_ HL2.out ?_); (rfl); (exact heap_alloc_new _ _)))
  go_ret
  exact ⟨rfl, HM3.out, HG3.out⟩

/-- There is such a word; such a block. -/
def inn (n : Nat) (i k : Int) : Bool := decide (0 ≤ i ∧ i < n ∧ 0 ≤ k ∧ k < 16)
def inb (n : Nat) (i : Int) : Bool := decide (0 ≤ i ∧ i < n)
def err (ok : Bool) : Int := if ok then 0 else 5
def setW (bs : List (List Int)) (i k y : Int) : List (List Int) := if inn bs.length i k then bs.set i.toNat ((bs.getD i.toNat []).set k.toNat y) else bs
def getW (bs : List (List Int)) (i k : Int) : Int := if inn bs.length i k then (bs.getD i.toNat []).getD k.toNat 0 else 0
def setB (bs : List (List Int)) (i : Int) (x : List Int) : List (List Int) := if inb bs.length i then bs.set i.toNat x else bs
def getB (bs : List (List Int)) (i : Int) : List Int := if inb bs.length i then bs.getD i.toNat [] else zero

theorem setW_length (bs : List (List Int)) (i k y : Int) : (setW bs i k y).length = bs.length := by unfold setW; split <;> simp
theorem setB_length (bs : List (List Int)) (i : Int) (x : List Int) : (setB bs i x).length = bs.length := by unfold setB; split <;> simp
theorem getB_length {w : World} {b : Nat} {v : Value} {bs : List (List Int)} (hM : Mem w b v bs) (i : Int) : (getB bs i).length = 16 := by
  unfold getB
  split
  · rename_i h
    simp [inb] at h
    have hi : i.toNat < bs.length := by omega
    rw [List.getD_eq_getElem?_getD, List.getElem?_eq_getElem hi]
    exact hM.len _ (List.getElem_mem hi)
  · rfl

section
variable {w : World} {b : Nat} {v : Value} {bs : List (List Int)}

theorem block_any (hM : Mem w b v bs) (i : Int) : Calls Tryd.prog 26 #[.pointer (some ⟨b, 0, none⟩), .int .i64 i] w fun e w' => e = .returned (.tuple #[.agg (row (getB bs i)), .int .i64 (err (inb bs.length i))]) ∧ w.grownBy w' none := by
  by_cases h : inb bs.length i = true
  · have h0 := h
    simp [inb] at h0
    obtain ⟨n, rfl⟩ : ∃ n : Nat, i = (n : Int) := ⟨i.toNat, by omega⟩
    have hn : n < bs.length := by omega
    have hx : bs[n]? = some (getB bs n) := by
      rw [getB, h, if_pos rfl, Int.toNat_natCast, List.getD_eq_getElem?_getD, List.getElem?_eq_getElem hn]; rfl
    rw [h]
    exact (block_in b v bs n _ w hM hx).mono fun e w' ⟨h1, h2⟩ => ⟨h1, grown_row h2⟩
  · have h0 : ¬ (0 ≤ i ∧ i < bs.length) := by simpa [inb] using h
    have hz : getB bs i = zero := by rw [getB, if_neg h]
    rw [hz, Bool.not_eq_true] at *
    rw [h]
    exact (block_out b v bs i w hM (by omega)).mono fun e w' ⟨h1, h2⟩ => ⟨h1, grown_row h2⟩

theorem set_block_any (hM : Mem w b v bs) (i : Int) (x : List Int) (hx : x.length = 16) : Calls Tryd.prog 41 #[.pointer (some ⟨b, 0, none⟩), .int .i64 i, .agg (row x)] w fun e w' => e = .returned (.int .i64 (err (inb bs.length i))) ∧ Mem w' b v (setB bs i x) ∧ w.grownBy w' v.ownBlock := by
  by_cases h : inb bs.length i = true
  · have h0 := h
    simp [inb] at h0
    obtain ⟨n, rfl⟩ : ∃ n : Nat, i = (n : Int) := ⟨i.toNat, by omega⟩
    rw [setB, h, if_pos rfl, Int.toNat_natCast]
    exact set_block_in b v bs n x hx w hM (by omega)
  · have h0 : ¬ (0 ≤ i ∧ i < bs.length) := by simpa [inb] using h
    rw [setB, if_neg h, Bool.not_eq_true] at *
    rw [h]
    exact (set_block_err b v bs i x hx w hM (by omega)).mono fun e w' ⟨h1, h2⟩ => ⟨h1, hM.kept h2, grown_some h2 _⟩

theorem inn_cases (n : Nat) (i k : Int) (h : ¬ inn n i k = true) : i < 0 ∨ (n : Int) ≤ i ∨ (∃ m : Nat, i = m ∧ m < n ∧ ¬ (0 ≤ k ∧ k < 16)) := by
  have h0 : ¬ (0 ≤ i ∧ i < n ∧ 0 ≤ k ∧ k < 16) := by simpa [inn] using h
  by_cases h1 : i < 0
  · exact .inl h1
  · by_cases h2 : (n : Int) ≤ i
    · exact .inr (.inl h2)
    · exact .inr (.inr ⟨i.toNat, by omega, by omega, by omega⟩)

theorem word_any (hM : Mem w b v bs) (i k : Int) : Calls Tryd.prog 13 #[.pointer (some ⟨b, 0, none⟩), .int .i64 i, .int .i64 k] w fun e w' => e = .returned (.tuple #[.int .u32 (getW bs i k), .int .i64 (err (inn bs.length i k))]) ∧ w.grownBy w' none := by
  by_cases h : inn bs.length i k = true
  · have h0 := h
    simp [inn] at h0
    obtain ⟨n, rfl⟩ : ∃ n : Nat, i = (n : Int) := ⟨i.toNat, by omega⟩
    obtain ⟨m, rfl⟩ : ∃ m : Nat, k = (m : Int) := ⟨k.toNat, by omega⟩
    have hn : n < bs.length := by omega
    have hl : bs[n].length = 16 := hM.len _ (List.getElem_mem hn)
    have hx : bs[n]? = some bs[n] := List.getElem?_eq_getElem hn
    have hy : (bs[n])[m]? = some (getW bs n m) := by
      rw [getW, h, if_pos rfl, Int.toNat_natCast, Int.toNat_natCast, List.getD_eq_getElem?_getD, List.getD_eq_getElem?_getD, hx, Option.getD_some, List.getElem?_eq_getElem (by omega)]; rfl
    rw [h]
    exact word_in b v bs n m _ _ w hM hx hy
  · have hz : getW bs i k = 0 := by rw [getW, if_neg h]
    rw [hz]
    have h1 := inn_cases _ _ _ h
    rw [Bool.not_eq_true] at h
    rw [h]
    rcases h1 with h1 | h1 | ⟨m, rfl, hm, hk⟩
    · exact word_out b v bs i k w hM (.inl h1)
    · exact word_out b v bs i k w hM (.inr h1)
    · exact word_bad b v bs m k w hM hm hk

theorem set_word_any (hM : Mem w b v bs) (i k y : Int) : Calls Tryd.prog 28 #[.pointer (some ⟨b, 0, none⟩), .int .i64 i, .int .i64 k, .int .u32 y] w fun e w' => e = .returned (.int .i64 (err (inn bs.length i k))) ∧ Mem w' b v (setW bs i k y) ∧ w.grownBy w' v.ownBlock := by
  by_cases h : inn bs.length i k = true
  · have h0 := h
    simp [inn] at h0
    obtain ⟨n, rfl⟩ : ∃ n : Nat, i = (n : Int) := ⟨i.toNat, by omega⟩
    obtain ⟨m, rfl⟩ : ∃ m : Nat, k = (m : Int) := ⟨k.toNat, by omega⟩
    have hn : n < bs.length := by omega
    have hx : bs[n]? = some (bs.getD n []) := by rw [List.getD_eq_getElem?_getD, List.getElem?_eq_getElem hn]; rfl
    rw [setW, h, if_pos rfl, Int.toNat_natCast, Int.toNat_natCast]
    exact set_word_in b v bs n m _ y w hM hx (by omega)
  · have h1 := inn_cases _ _ _ h
    rw [setW, if_neg h]
    rw [Bool.not_eq_true] at h
    rw [h]
    refine Calls.mono (R := fun e w' => e = .returned (.int .i64 5) ∧ w.grownBy w' none) ?_ fun e w' ⟨h3, h4⟩ => ⟨h3, hM.kept h4, grown_some h4 _⟩
    rcases h1 with h1 | h1 | ⟨m, rfl, hm, hk⟩
    · exact set_word_out b v bs i k y w hM (.inl h1)
    · exact set_word_out b v bs i k y w hM (.inr h1)
    · exact set_word_bad b v bs m k y w hM hm hk
end
end Go.Proofs.YtfjjmlmkpdpdfaaDoor.pp
