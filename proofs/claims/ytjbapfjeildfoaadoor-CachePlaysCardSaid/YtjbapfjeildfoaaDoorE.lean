/-
  The model's '==' at two lines; the cache's answers as functions. No condition.
-/
import Derived.Test.YtjbapfjeildfoaaDoorE1
namespace Go.Proofs.YtjbapfjeildfoaaDoor.kk
open Go Go.ChangeShapes Go.WideShapes Go.ChangeAt Go.RowKit Go.Shelf
set_option linter.unusedVariables false

theorem stood36 : Tryd.prog.stoodInHeld 36 = false := by kernel_rfl
theorem fields36 : Tryd.prog.underlying 36 = some (.struct (Tryd.prog.fieldsOf 36)) := by kernel_rfl
theorem eq34k (k : Nat) (hk : 2 ≤ k) (w : World) (xs ys : List Int) (hx : xs.length = 16) (hy : ys.length = 16) : (Op.equalIn k 34 (.agg (row xs)) (.agg (row ys))).run Tryd.prog w = .ok (xs == ys) w := by
  obtain ⟨d, rfl⟩ : ∃ d, k = d + 2 := ⟨k - 2, by omega⟩
  exact eq34 w d xs ys hx hy
theorem eqIk (k : Nat) (hk : 1 ≤ k) (w : World) (t : TypeId) (q : IntKind) (a b : Int) (h : Tryd.prog.underlying t = some (.int q)) : (Op.equalIn k t (.int q a) (.int q b)).run Tryd.prog w = .ok (a == b) w := by
  obtain ⟨d, rfl⟩ : ∃ d, k = d + 1 := ⟨k - 1, by omega⟩
  exact run_equalIn_int w d t q q a b h
theorem eq36k (k : Nat) (hk : 3 ≤ k) (x y : Ln) (w : World) : (Op.equalIn k 36 (.agg (la x)) (.agg (la y))).run Tryd.prog w = .ok (decide (x = y)) w := by
  obtain ⟨d, rfl⟩ : ∃ d, k = d + 1 := ⟨k - 1, by omega⟩
  rw [run_equalIn_agg w d 36 _ _ fields36 stood36]
  simp only [Program.fieldsOf, Tryd.underlying36]
  have p0 : ∀ l : Ln, (part 3 (la l) 0).run Tryd.prog w = .ok (.int .i64 l.b) w := fun l => by simp [part, isAgg, run_underlying Tryd.underlying3, la, ln]
  have p1 : ∀ l : Ln, (part 31 (la l) 1).run Tryd.prog w = .ok (.int .u8 l.s) w := fun l => by simp [part, isAgg, run_underlying Tryd.underlying31, la, ln]
  have p2 := part34 w
  have e34 := eq34k d (by omega) w x.d y.d x.h y.h
  have e0 := eqIk d (by omega) w 3 .i64 x.b y.b Tryd.underlying3
  have e1 := eqIk d (by omega) w 31 .u8 x.s y.s Tryd.underlying31
  simp [Op.eqFields, Sem.run_bind, p0, p1, p2, e34, e0, e1]
  by_cases h1 : x.b = y.b
  · by_cases h2 : x.s = y.s
    · by_cases h3 : x.d = y.d
      · have : x = y := Ln.ext h1 h2 h3
        simp [this]
      · have : x ≠ y := fun e => h3 (by rw [e])
        simp [this, h1, h2, h3]
    · have : x ≠ y := fun e => h2 (by rw [e])
      simp [this, h1, h2]
  · have : x ≠ y := fun e => h1 (by rw [e])
    simp [this, h1]
theorem q36e (x y : Ln) (w : World) : (binOp .eql 36 (.agg (la x)) (.agg (la y))).run Tryd.prog w = .ok (.bool (decide (x = y))) w := by
  rw [run_eql_struct, eq36k 10000 (by omega) x y w]
  rfl
theorem q36n (x y : Ln) (w : World) : (binOp .neq 36 (.agg (la x)) (.agg (la y))).run Tryd.prog w = .ok (.bool (!decide (x = y))) w := by
  rw [run_neq_struct, eq36k 10000 (by omega) x y w]
  rfl
end Go.Proofs.YtjbapfjeildfoaaDoor.kk
