/-
  The model's '==' at the words of two lines. No condition.
-/
import Derived.Test.YtjbapfjeildfoaaDoorC12
import Derived.Laws.StructEq
namespace Go.Proofs.YtjbapfjeildfoaaDoor.kk
open Go Go.ChangeShapes Go.WideShapes Go.ChangeAt Go.RowKit Go.Shelf
set_option linter.unusedVariables false

def row (x : List Int) : Array Value := (x.map U).toArray
theorem all_range_eqU : ∀ (xs ys : List Int), xs.length = ys.length → ((List.range xs.length).all fun i => xs.getD i 0 == ys.getD i 0) = (xs == ys)
  | [], [], _ => rfl
  | x :: xs, y :: ys, h => by
    have ih := all_range_eqU xs ys (by simpa using h)
    rw [List.length_cons, List.range_succ_eq_map, List.all_cons, List.all_map]
    simp only [List.getD_cons_zero, Function.comp_def, List.getD_cons_succ, ih]
    simp [List.cons_beq_cons]
  | [], _ :: _, h => by simp at h
  | _ :: _, [], h => by simp at h

theorem eq34 (w : World) (d : Nat) (xs ys : List Int) (hx : xs.length = 16) (hy : ys.length = 16) :
    (Op.equalIn (d + 2) 34 (.agg (row xs)) (.agg (row ys))).run Tryd.prog w = .ok (xs == ys) w := by
  rw [← all_range_eqU xs ys (hx.trans hy.symm), hx, List.range_eq_range', Op.equalIn]
  simp only [Sem.run_bind, run_underlying Tryd.underlying34, Result.andThen_ok, Tryd.sizeOf32, Std.Legacy.Range.forIn_eq_forIn_range', Std.Legacy.Range.size, Nat.sub_zero, Nat.add_sub_cancel, Nat.div_one]
  have hl : ∀ i ∈ List.range' 0 16 1, i < 16 := fun i hi => by simpa using (List.mem_range'_1.1 hi).2
  generalize List.range' 0 16 1 = l at hl ⊢
  induction l with
  | nil => simp
  | cons i l ih =>
    have hi : i < 16 := hl i (by simp)
    have px : (part 32 (row xs) (i * 1)).run Tryd.prog w = .ok (U (xs.getD i 0)) w := by
      simp [part, isAgg, run_underlying Tryd.underlying32, row, List.getD, List.getElem?_eq_getElem (show i < xs.length by omega)]
    have py : (part 32 (row ys) (i * 1)).run Tryd.prog w = .ok (U (ys.getD i 0)) w := by
      simp [part, isAgg, run_underlying Tryd.underlying32, row, List.getD, List.getElem?_eq_getElem (show i < ys.length by omega)]
    have pe : (Op.equalIn (d + 1) 32 (U (xs.getD i 0)) (U (ys.getD i 0))).run Tryd.prog w = .ok (xs.getD i 0 == ys.getD i 0) w := by
      rw [U, U, run_equalIn_int w d 32 .u32 .u32 _ _ Tryd.underlying32]
    simp only [List.forIn_cons, Sem.run_bind, px, py, pe, Result.andThen_ok, List.all_cons]
    cases hb : (xs.getD i 0 == ys.getD i 0)
    · simp
    · simp only [Bool.not_true, Bool.false_eq_true, if_false, Sem.run_pure, Result.andThen_ok, Bool.true_and]
      exact ih fun j hj => hl j (by simp [hj])

theorem part34 (w : World) (l : Ln) : (part 34 (la l) 2).run Tryd.prog w = .ok (.agg (row l.d)) w := by
  have h : (la l).extract 2 18 = row l.d := by
    apply Array.ext'
    simp [la, ln, row]
    rw [List.take_of_length_le (by simp [l.h])]
  have h34 := Tryd.isAgg34
  have hs := Tryd.sizeOf34
  simp [part, h34, hs, h]
theorem la_get (l : Ln) : (la l)[0]? = some (.int .i64 l.b) ∧ (la l)[1]? = some (.int .u8 l.s) := ⟨rfl, rfl⟩
end Go.Proofs.YtjbapfjeildfoaaDoor.kk
