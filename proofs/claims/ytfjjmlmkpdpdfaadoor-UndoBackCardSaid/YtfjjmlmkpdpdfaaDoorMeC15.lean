/-
  What the document's own memory answers to Block, SetBlock, New: contracts. No condition but the bounds that each theorem names.
-/
import Derived.Test.YtfjjmlmkpdpdfaaDoorMeC14
namespace Go.Proofs.YtfjjmlmkpdpdfaaDoor.pp
open Go Go.ChangeShapes Go.WideShapes Go.ChangeAt Go.RowKit
set_option linter.unusedVariables false

/-- The first k words of x, the others of y. -/
def cp (x y : List Int) (k : Nat) : List Int := x.take k ++ y.drop k
theorem cp_len (x y : List Int) (k : Nat) (hx : x.length = 16) (hy : y.length = 16) (h : k ≤ 16) : (cp x y k).length = 16 := by simp [cp]; omega
theorem cp_zero (x y : List Int) : cp x y 0 = y := by simp [cp]
theorem cp_all (x y : List Int) (hx : x.length = 16) (hy : y.length = 16) : cp x y 16 = x := by
  rw [cp, List.take_of_length_le (by omega), List.drop_of_length_le (by omega), List.append_nil]
theorem cp_set (x y : List Int) (k : Nat) (u : Int) (hx : x.length = 16) (hy : y.length = 16) (h : x[k]? = some u) : (cp x y k).set k u = cp x y (k + 1) := by
  have hk : k < 16 := by rw [← hx]; exact (List.getElem?_eq_some_iff.1 h).1
  apply List.ext_getElem?
  intro j
  rw [List.getElem?_set, cp_len _ _ _ hx hy (by omega)]
  unfold cp
  rw [List.getElem?_append, List.getElem?_append, List.length_take, List.length_take, List.getElem?_take, List.getElem?_take, List.getElem?_drop, List.getElem?_drop]
  rw [show min k x.length = k by omega, show min (k + 1) x.length = k + 1 by omega]
  by_cases h1 : k = j
  · subst h1; simp [hk, h]
  · rw [if_neg h1]
    by_cases h2 : j < k
    · simp [h2, show j < k + 1 by omega]
    · simp [h2, show ¬ j < k + 1 by omega, show k + (j - k) = j by omega, show k + 1 + (j - (k + 1)) = j by omega]

/-- What Block hands back, and a word. -/
theorem ret_rblock (w : World) (g : Nat) (x : List Int) (h : x.length = 16) (n : Int) (tmps : Array Value) (Q : Ending → World → Prop) (hg : w.heap[g]? = some (.cells (row x) 56 (0, 0))) (h4 : tmps.getD 4 undef = .pointer (some ⟨g, 0, none⟩)) (h5 : tmps.getD 5 undef = .int .i64 n)
    (hQ : Q (.returned (.tuple #[.agg (row x), .int .i64 n])) w) : bodyPost Tryd.prog Tryd.f27 Q .ret { tmps := tmps, defers := [] } w := by
  refine bodyPost_ret (v := .tuple #[.agg (row x), .int .i64 n]) ?_ rfl hQ
  rw [results_cell_tmp rfl, h4, h5]
  have := run_loadVar_row (P := Tryd.prog) w g 56 56 (row x) (0, 0) _ hg Tryd.underlying56 rfl (info30' _ h)
  simp [asAddr, Result.andThen, this]

set_option maxRecDepth 1000000 in
set_option maxHeartbeats 1000000 in
theorem rblock_any (b : Nat) (v : Value) (bs : List (List Int)) (i : Int) (w : World) (hR : RMem w b v bs) : Calls Tryd.prog 27 #[.pointer (some ⟨b, 0, none⟩), .int .i64 i] w fun e w' => e = .returned (.tuple #[.agg (row (getB bs i)), .int .i64 (err (inb bs.length i))]) ∧ w.grownBy w' none := by
  have hg0 : w.grownBy ((w.alloc (.cells (row zero) 56)).alloc (.cells (row zero) 56)) none := grown_alloc (grown_alloc (grown_refl _ _) _) _
  have hp := place_any b v bs i 0 _ (hR.kept hg0)
  have hii : inn bs.length i 0 = inb bs.length i := by simp [inn, inb]
  rw [hii] at hp
  by_cases hin : inb bs.length i = true
  · have h0 := hin
    simp [inb] at h0
    obtain ⟨n, rfl⟩ : ∃ n : Nat, i = (n : Int) := ⟨i.toNat, by omega⟩
    have hn : n < bs.length := by omega
    obtain ⟨x, hx⟩ : ∃ x, bs[n]? = some x := ⟨_, List.getElem?_eq_getElem hn⟩
    have hx16 := hR.len x (List.mem_of_getElem? hx)
    have hgx : getB bs n = x := by rw [getB, hin, if_pos rfl, Int.toNat_natCast, List.getD_eq_getElem?_getD, hx]; rfl
    obtain ⟨y0, hy0⟩ : ∃ y, x[0]? = some y := ⟨x[0]'(by omega), List.getElem?_eq_getElem (by omega)⟩
    obtain ⟨g, off, cap, rfl, _, _⟩ := hR.at (k := 0) hx hy0
    have hcell : ∀ (k : Nat) (y : Int), x[k]? = some y → w.cell? ⟨g, off + (16 * n + k), none⟩ = some (.int .u32 y) := fun k y hy => by
      obtain ⟨g', off', cap', hv, h1, _⟩ := hR.at hx hy
      cases hv; exact h1
    have hc0 := hR.cell0
    have hf := hR.few
    rw [hin, if_pos rfl, show (16 * (n : Int) + 0) = ((16 * n : Nat) : Int) by omega] at hp
    rw [hgx, hin, show err true = 0 from rfl]
    obtain ⟨L, hL⟩ : ∃ L, L = 16 * bs.length := ⟨_, rfl⟩
    obtain ⟨P, hP⟩ : ∃ P, P = 16 * n := ⟨_, rfl⟩
    rw [← hP] at hp hcell
    rw [← hL] at hc0
    have hPL : P + 16 ≤ L := by omega
    have hL2 : L ≤ 4096 := by omega
    have hgl : g < w.heap.size := block_lt_of_cell (hcell 0 _ hy0)
    have hbl : b < w.heap.size := block_lt_of_cell hc0
    have HP := Lib.hid hp
    have HX := Lib.hid hx16
    have HC := Lib.hid hcell
    clear hR hp hx hy0 hx16 hcell hin hn hgx h0 hL hP hf hii hg0
    go_enter Tryd.func27, Tryd.ntmps27
    go_wp2_with (go_at_call 40; ((refine HP.out.mono ?_); rintro e w' ⟨rfl, rfl⟩))
    go_loopw [8] (fun i wr => ∃ k : Nat, k ≤ 16 ∧ i = .int .i64 (k : Int) ∧ wr = (w.alloc (.cells (row zero) 56)).alloc (.cells (row (cp x zero k)) 56)) (fun i _ => 16 - (intOf i).toNat)
    case atStart => exact ⟨0, by omega, rfl, by rw [cp_zero]⟩
    case round =>
      obtain ⟨k, hk, rfl, rfl⟩ := hrel
      by_cases hlt : k < 16
      · obtain ⟨y, hy⟩ : ∃ y, x[k]? = some y := ⟨_, List.getElem?_eq_getElem (by rw [HX.out]; exact hlt)⟩
        have hcy := HC.out k y hy
        have hr : (row (cp x zero k))[k]? = some (.int .u32 ((cp x zero k)[k]'(by rw [cp_len _ _ _ HX.out zero_size hk]; exact hlt))) := by rw [row_get, List.getElem?_eq_getElem (by rw [cp_len _ _ _ HX.out zero_size hk]; exact hlt)]; rfl
        have HS : Hid ((row (cp x zero k)).setIfInBounds k (.int .u32 y) = row (cp x zero (k + 1))) := Lib.hid (by rw [show (Value.int .u32 y) = U y from rfl, row_set, cp_set x zero k y HX.out zero_size hy])
        have hw : IntKind.i64.wrap ((P : Int) + (k : Int)) = ((P + k : Nat) : Int) := by simp [IntKind.wrap, IntKind.bits, IntKind.signed]; omega
        have hkL : P + k < L := by omega
        clear hy
        go_wp2_with fail
        go_roundw
        case rel => exact ⟨k + 1, by omega, by go_num, by rw [HS.out]⟩
        case measure => simp [intOf]; omega
      · have hkn : k = 16 := by omega
        subst hkn
        rw [cp_all x zero HX.out zero_size]
        clear hk hlt
        go_wp2_with (first
          | ((with_reducible refine load_any x 6 (w.heap.size + 1) ?_ ?_ HX.out ?_); (rfl); (exact heap_alloc2_new w _ _))
          | ((with_reducible refine store_any x zero 4 31 w.heap.size ?_ ?_ HX.out ?_ zero_size ?_); (rfl); (rfl); (exact heap_alloc2_old w _ _)))
        refine ret_rblock _ w.heap.size x HX.out 0 _ _ (setRow_heap _ _ _ _ _ _ (heap_alloc2_old w _ _)) (by rfl) (by rfl) ?_
        exact ⟨rfl, grown_setRow (grown_alloc (grown_alloc (grown_refl _ _) _) _) _ (Nat.le_refl _) _⟩
  · have hgx : getB bs i = zero := by rw [getB, if_neg hin]
    rw [if_neg hin] at hp
    rw [Bool.not_eq_true] at hin
    rw [hgx, hin, show err false = 5 from rfl]
    have HP := Lib.hid hp
    clear hR hp hin hii hg0
    go_enter Tryd.func27, Tryd.ntmps27
    go_wp2_with (first
      | (go_at_call 40; ((refine HP.out.mono ?_); rintro e w' ⟨rfl, rfl⟩))
      | ((with_reducible refine load_any zero 6 (w.heap.size + 1) ?_ ?_ zero_size ?_); (rfl); (exact heap_alloc2_new w _ _))
      | ((with_reducible refine store_any zero zero 4 15 w.heap.size ?_ ?_ zero_size ?_ zero_size ?_); (rfl); (rfl); (exact heap_alloc2_old w _ _)))
    refine ret_rblock _ w.heap.size zero zero_size 5 _ _ (setRow_heap _ _ _ _ _ _ (heap_alloc2_old w _ _)) (by rfl) (by rfl) ?_
    exact ⟨rfl, grown_setRow (grown_alloc (grown_alloc (grown_refl _ _) _) _) _ (Nat.le_refl _) _⟩
end Go.Proofs.YtfjjmlmkpdpdfaaDoor.pp
