/-
  The law MemKnown returns true: the walk. No condition.
-/
import Derived.Test.YtcbkfgcjjhifdaaC9
import Derived.Test.YtcbkfgcjjhifdaaC5
namespace Go.Proofs.Ytcbkfgcjjhifdaa.pp
open Go Go.ChangeShapes Go.WideShapes Go.ChangeAt Go.RowKit
set_option linter.unusedVariables false

theorem block_lt {w : World} {g : Nat} {o : Obj} (h : w.heap[g]? = some o) : g < w.heap.size := (Array.getElem?_eq_some_iff.1 h).1

set_option maxHeartbeats 2000000 in
theorem known_true (w : World) : Calls Try.prog 3 #[] w fun e w' => e = .returned (.bool true) ∧ w.grownBy w' none := by
  have hn := new_ok 3 w (by omega) (by omega)
  rw [show ((3 : Nat) : Int) = 3 from rfl] at hn
  have HN := Lib.hid hn
  obtain ⟨c, hc⟩ : ∃ c, c = mrg (allX 1) (allX 2) 5 := ⟨_, rfl⟩
  have HMG : ∀ w, Hid (Calls Try.prog 12 #[.agg (row (allX 1)), .agg (row (allX 2)), .int .u16 5] w fun e w' => e = .returned (.agg (row c)) ∧ w.grownBy w' none) := fun w => Lib.hid (by have := merge_any (allX 1) (allX 2) 5 (allX_len _) (allX_len _) (by omega) w; rwa [← hc] at this)
  have HC : Hid (c.length = 16) := Lib.hid (by rw [hc]; exact mrg_len _ _ _)
  have hc0 : (row c)[0]? = some (.int .u32 2) := by rw [row_get, hc]; rfl
  have hc1 : (row c)[1]? = some (.int .u32 1) := by rw [row_get, hc]; rfl
  have hc2 : (row c)[2]? = some (.int .u32 2) := by rw [row_get, hc]; rfl
  obtain ⟨t, n, HT, hagg, hsize, hld⟩ := named
  have lc := fun g => hld g c HC.out
  clear hn hc hld
  go_enter Try.func3, Try.ntmps3
  rw [HT.out]
  go_wp2_with (first
    | (go_at_call 10; ((with_reducible refine HN.out.mono ?_); rintro e w1 ⟨b, v, rfl, hm1, hg1, _, hv1⟩; have HM1 := Lib.hid hm1; have HG1 := Lib.hid hg1; clear hm1 hg1 hv1))
    | (go_at_call 11; ((with_reducible refine (word_any HM1.out 2 14).mono ?_); rintro e w2 ⟨he, hg2⟩; (rw [show getW (List.replicate 3 zero) 2 14 = 0 from rfl, show err (inn (List.replicate 3 zero).length 2 14) = 0 from rfl] at he); subst he; have HM2 := Lib.hid (HM1.out.kept hg2); have HG2 := Lib.hid (grown_trans HG1.out hg2); clear hg2))
    | (go_at_call 11; ((with_reducible refine (word_any HM2.out 0 16).mono ?_); rintro e w3 ⟨he, hg3⟩; (rw [show getW (List.replicate 3 zero) 0 16 = 0 from rfl, show err (inn (List.replicate 3 zero).length 0 16) = 5 from rfl] at he); subst he; have HG3 := Lib.hid (grown_trans HG2.out hg3); clear hg3))
    | (go_at_call 13; ((with_reducible refine (all_any 1 _).mono ?_); rintro e w4 ⟨rfl, hg4⟩; have HG4 := Lib.hid (grown_trans HG3.out hg4); clear hg4))
    | (go_at_call 13; ((with_reducible refine (all_any 2 _).mono ?_); rintro e w5 ⟨rfl, hg5⟩; have HG5 := Lib.hid (grown_trans HG4.out hg5); clear hg5))
    | (go_at_call 12; ((with_reducible refine (HMG _).out.mono ?_); rintro e w6 ⟨rfl, hg6⟩; have HG6 := Lib.hid (grown_trans HG5.out hg6); clear hg6))
    | ((with_reducible refine store_new' c 7 29 ?_ ?_ HC.out ?_); (rfl); (rfl); have HK6 := Lib.hid (heap_alloc_new w6 (.cells (row c) 30)); have HG6' := Lib.hid (grown_alloc HG6.out (.cells (row c) 30)))
    | (go_at_call 11; ((with_reducible refine (word_nil 0 0 _).mono ?_); rintro e w7 ⟨rfl, hg7⟩; have HG7 := Lib.hid (grown_trans HG6'.out hg7); have HK7 := Lib.hid ((hg7.block _ (by simp) (by simp)).trans HK6.out); clear hg7))
    | (go_at_call 14; ((with_reducible refine (block_nil 0 _).mono ?_); rintro e w8 ⟨rfl, hw8⟩; have hg8 := grown_row hw8; have HG8 := Lib.hid (grown_trans HG7.out hg8); have HK8 := Lib.hid ((hg8.block _ (block_lt HK7.out) (by simp)).trans HK7.out); clear hw8 hg8))
    | ((with_reducible refine store_new' zero 11 38 ?_ ?_ zero_size ?_); (rfl); (rfl))
    | (go_at_call 15; ((with_reducible refine (works_any _).mono ?_); rintro e w9 ⟨rfl, hg9⟩; have hk9 := (hg9.block w6.heap.size (by have := block_lt HK8.out; simp; omega) (by simp)).trans ((Below.heap_alloc _ _ _ (block_lt HK8.out)).trans HK8.out); have HG9 := Lib.hid (grown_trans (grown_alloc HG8.out _) hg9); have HK9 := Lib.hid hk9; have k0 : w9.cell? ⟨w6.heap.size, 0, none⟩ = some (.int .u32 2) := (by rw [cell_of_row _ _ 0 _ _ _ hk9]; exact hc0); have k1 : w9.cell? ⟨w6.heap.size, 1, none⟩ = some (.int .u32 1) := (by rw [cell_of_row _ _ 1 _ _ _ hk9]; exact hc1); have k2 : w9.cell? ⟨w6.heap.size, 2, none⟩ = some (.int .u32 2) := (by rw [cell_of_row _ _ 2 _ _ _ hk9]; exact hc2); clear hk9 hg9))
    | (go_at_call 16; ((with_reducible refine (set_word_nil 0 0 0 _).mono ?_); rintro e w10 ⟨rfl, hg10⟩; have HG10 := Lib.hid (grown_trans HG9.out hg10); have r10 : w10.rangeAt w6.heap.size 0 (rl c) := range_of ((hg10.block _ (block_lt HK9.out) (by simp)).trans HK9.out); clear hg10))
    | (go_at_call 17; ((with_reducible refine (set_block_nil 0 c HC.out _).mono ?_); rintro e w11 ⟨rfl, hg11⟩; have HG11 := Lib.hid (grown_trans HG10.out hg11); clear hg11))
    | (go_at_call 18; ((with_reducible refine (blocks_nil _).mono ?_); rintro e w' ⟨rfl, rfl⟩))
    | (go_at_call 19; ((with_reducible refine (copy_nil _).mono ?_); rintro e w' ⟨rfl, rfl⟩)))
  go_ret
  exact ⟨rfl, HG11.out⟩
end Go.Proofs.Ytcbkfgcjjhifdaa.pp
