/-
  An entry as two cells, the model's '==' at two entries; what the small functions of package entry answer: contracts. No condition but the bounds that each theorem names.
-/
import Derived.Test.YtplebmafdfciaaaDoorMaC2
import Derived.Laws.StructEq
import Derived.Deep.WholeRow
import Derived.Deep.RegionHeld3
import Derived.Below
namespace Go.Proofs.YtplebmafdfciaaaDoor.en
open Go Go.ChangeShapes Go.WideShapes Go.ChangeAt Go.RowKit
open Go.Proofs.YtplebmafdfciaaaDoor.mm (wi wo ha pop wi_lt wo_lt with_any)
set_option linter.unusedVariables false

theorem grown_alloc {w w' : World} {own : Option Nat} (h : w.grownBy w' own) (o : Obj) : w.grownBy (w'.alloc o) own :=
  ⟨h.os, h.tape, h.output, by have := h.size; simp; omega, fun k hk hn => (Below.heap_alloc _ _ _ (Nat.lt_of_lt_of_le hk h.size)).trans (h.block k hk hn)⟩
theorem grown_refl (w : World) (own : Option Nat) : w.grownBy w own := ⟨rfl, rfl, rfl, Nat.le_refl _, fun _ _ _ => rfl⟩
theorem grown_trans {a b c : World} {own : Option Nat} (h : a.grownBy b own) (k : b.grownBy c own) : a.grownBy c own :=
  ⟨k.os.trans h.os, k.tape.trans h.tape, k.output.trans h.output, Nat.le_trans h.size k.size, fun i hi hn => (k.block i (Nat.lt_of_lt_of_le hi h.size) hn).trans (h.block i hi hn)⟩
theorem grown_drew {w w' : World} {own : Option Nat} (h : w.grownBy w' own) : w.grownBy w'.drew own := ⟨h.os, h.tape, h.output, h.size, h.block⟩
theorem grown_drewN {w w' : World} {own : Option Nat} (h : w.grownBy w' own) (n : Nat) : w.grownBy (w'.drewN n) own := ⟨h.os, h.tape, h.output, h.size, h.block⟩
theorem below_of {w w' : World} (h : w.grownBy w' none) : Below w.heap.size w w' := ⟨h.os, h.tape, h.output, h.size, fun k hk => h.block k hk (by simp)⟩

/-- An entry: its owner, its sharers. -/
structure En where
  o : Int
  s : Nat
deriving DecidableEq
def ea (e : En) : Array Value := #[.int .i64 e.o, .int .u32 (e.s : Int)]
/-- May it be? -/
def En.may (e : En) : Bool := decide (-1 ≤ e.o ∧ e.o ≤ 15 ∧ e.s < 65536 ∧ (e.o ≠ -1 → e.s = 0))
/-- May an ask be? -/
def ask (e : En) (k x : Int) : Bool := e.may && decide (0 ≤ x ∧ x ≤ 15) && decide (k = 1 ∨ k = 2)
def free : En := ⟨-1, 0⟩

theorem stoodE : Tryd.prog.stoodInHeld 25 = false := by kernel_rfl
theorem fieldsE : Tryd.prog.underlying 25 = some (.struct (Tryd.prog.fieldsOf 25)) := by kernel_rfl
theorem eqIk (k : Nat) (hk : 1 ≤ k) (w : World) (t : TypeId) (q : IntKind) (a b : Int) (h : Tryd.prog.underlying t = some (.int q)) : (Op.equalIn k t (.int q a) (.int q b)).run Tryd.prog w = .ok (a == b) w := by
  obtain ⟨d, rfl⟩ : ∃ d, k = d + 1 := ⟨k - 1, by omega⟩
  exact run_equalIn_int w d t q q a b h
theorem eqEk (k : Nat) (hk : 3 ≤ k) (w : World) (a b c d : Int) : (Op.equalIn k 25 (.agg #[.int .i64 a, .int .u32 b]) (.agg #[.int .i64 c, .int .u32 d])).run Tryd.prog w = .ok (decide (a = c ∧ b = d)) w := by
  obtain ⟨n, rfl⟩ : ∃ n, k = n + 1 := ⟨k - 1, by omega⟩
  rw [run_equalIn_agg w n 25 _ _ fieldsE stoodE]
  simp only [Program.fieldsOf, Tryd.underlying25]
  have p0 : ∀ x y : Int, (part 3 #[.int .i64 x, .int .u32 y] 0).run Tryd.prog w = .ok (.int .i64 x) w := fun x y => by simp [part, isAgg, run_underlying Tryd.underlying3]
  have p1 : ∀ x y : Int, (part 23 #[.int .i64 x, .int .u32 y] 1).run Tryd.prog w = .ok (.int .u32 y) w := fun x y => by simp [part, isAgg, run_underlying Tryd.underlying23]
  have e0 := eqIk n (by omega) w 3 .i64 a c Tryd.underlying3
  have e1 := eqIk n (by omega) w 23 .u32 b d Tryd.underlying23
  simp [Op.eqFields, Sem.run_bind, p0, p1, e0, e1]
  by_cases h1 : a = c
  · by_cases h2 : b = d <;> simp [h1, h2]
  · simp [h1]
theorem eqE (w : World) (a b c d : Int) : (binOp .eql 25 (.agg #[.int .i64 a, .int .u32 b]) (.agg #[.int .i64 c, .int .u32 d])).run Tryd.prog w = .ok (.bool (decide (a = c ∧ b = d))) w := by
  rw [run_eql_struct, eqEk 10000 (by omega) w a b c d]
  rfl
theorem neE (w : World) (a b c d : Int) : (binOp .neq 25 (.agg #[.int .i64 a, .int .u32 b]) (.agg #[.int .i64 c, .int .u32 d])).run Tryd.prog w = .ok (.bool (!decide (a = c ∧ b = d))) w := by
  rw [run_neq_struct, eqEk 10000 (by omega) w a b c d]
  rfl

theorem infoE (a b : Value) : (Tryd.prog.info? 25).map (·.size) = some (#[a, b] : Array Value).size := by
  have : (Tryd.prog.info? 25).map (·.size) = some 2 := by kernel_rfl
  exact this
/-- A function whose one result is an entry's variable. -/
theorem ret1 {fn : Func} {p : Tmp} (h : fn.results = #[.cell p 25]) {tmps : Array Value} {w : World} {g : Nat} {t : TypeId} {a b : Value} {fr : Nat × Nat} {Q : Ending → World → Prop}
    (hp : tmps.getD p undef = .pointer (some ⟨g, 0, none⟩)) (hg : w.heap[g]? = some (.cells #[a, b] t fr)) (hQ : Q (.returned (.agg #[a, b])) w) : bodyPost Tryd.prog fn Q .ret { tmps := tmps, defers := [] } w :=
  bodyPost_ret (v := .agg #[a, b]) (results_cell_row h _ _ g t #[a, b] fr _ hp hg Tryd.underlying25 rfl (infoE a b)) rfl hQ
/-- One whose first result is, of three. -/
theorem ret3 {fn : Func} {p u v : Tmp} (h : fn.results = #[.cell p 25, .tmp u, .tmp v]) {tmps : Array Value} {w : World} {g : Nat} {t : TypeId} {a b x y : Value} {fr : Nat × Nat} {Q : Ending → World → Prop}
    (hp : tmps.getD p undef = .pointer (some ⟨g, 0, none⟩)) (hu : tmps.getD u undef = x) (hv : tmps.getD v undef = y) (hg : w.heap[g]? = some (.cells #[a, b] t fr)) (hQ : Q (.returned (.tuple #[.agg #[a, b], x, y])) w) : bodyPost Tryd.prog fn Q .ret { tmps := tmps, defers := [] } w := by
  refine bodyPost_ret (v := .tuple #[.agg #[a, b], x, y]) ?_ rfl hQ
  have hl := run_loadVar_row (P := Tryd.prog) w g t 25 #[a, b] fr _ hg Tryd.underlying25 rfl (infoE a b)
  have hp' : tmps[p]?.getD undef = .pointer (some ⟨g, 0, none⟩) := by simpa using hp
  have hu' : tmps[u]?.getD undef = x := by simpa using hu
  have hv' : tmps[v]?.getD undef = y := by simpa using hv
  simp [results, h, hp', hu', hv', asAddr, hl]

theorem grown_setRow {w w1 : World} (h : w.grownBy w1 none) (g : Nat) (hg : w.heap.size ≤ g) (c : Array Value) : w.grownBy (w1.setRow g c) none :=
  ⟨h.os, h.tape, h.output, by have := h.size; simp; omega, fun k hk hn => (setRow_other _ _ _ _ (by omega)).trans (h.block k hk hn)⟩
theorem row_grown {w w' : World} {g : Nat} {o : Obj} (h : w.heap[g]? = some o) (hg : w.grownBy w' none) : w'.heap[g]? = some o :=
  (hg.block g (Array.getElem?_eq_some_iff.1 h).1 (by simp)).trans h
section
variable {w : World} {ops : Array Oper} {rest : List Oper} {a : Act} {Q : Exit → Act → World → Prop} {dst : Option Tmp} {ty : TypeId} {pos : String} {after : Array Edge}
/-- An entry out of a variable. -/
theorem load_en (p q : Value) (t : TypeId) (fr : Nat × Nat) (x : Tmp) (g : Nat) (hx : a.eval (.tmp x) = .pointer (some ⟨g, 0, none⟩)) (hg : w.heap[g]? = some (.cells #[p, q] t fr))
    (h : wpList Tryd.prog ops Q rest (a.put dst (.agg #[p, q])) w) : wpList Tryd.prog ops Q (⟨dst, .load 25 (.tmp x), ty, pos, after, none⟩ :: rest) a w :=
  wpList_load_row rfl 25 (.tmp x) rfl g hx t _ fr _ hg Tryd.underlying25 rfl (infoE p q) h
/-- An entry into a variable. -/
theorem store_en (p q : Int) (c : Array Value) (t : TypeId) (x y : Tmp) (g : Nat) (hx : a.eval (.tmp x) = .pointer (some ⟨g, 0, none⟩)) (hy : a.eval (.tmp y) = .agg #[.int .i64 p, .int .u32 q]) (hg : w.heap[g]? = some (.cells c t (0, 0))) (hc : c.size = 2)
    (h : wpList Tryd.prog ops Q rest (a.put dst undef) (w.setRow g #[.int .i64 p, .int .u32 q])) : wpList Tryd.prog ops Q (⟨dst, .store 25 (.tmp x) (.tmp y), ty, pos, after, none⟩ :: rest) a w :=
  wpList_store_row rfl 25 (.tmp x) (.tmp y) rfl g _ hx hy t _ hg (infoE _ _) (by rw [hc]; rfl) (by simp [Value.oneCell']) h
/-- An entry into the variable that was made last. -/
theorem store_enN (p q : Int) (c : Array Value) (t : TypeId) (x y : Tmp) (hx : a.eval (.tmp x) = .pointer (some ⟨w.heap.size, 0, none⟩)) (hy : a.eval (.tmp y) = .agg #[.int .i64 p, .int .u32 q]) (hc : c.size = 2)
    (h : wpList Tryd.prog ops Q rest (a.put dst undef) (w.alloc (.cells #[.int .i64 p, .int .u32 q] t))) : wpList Tryd.prog ops Q (⟨dst, .store 25 (.tmp x) (.tmp y), ty, pos, after, none⟩ :: rest) a (w.alloc (.cells c t)) := by
  refine store_en p q c t x y w.heap.size hx hy (heap_alloc_new _ _) hc ?_
  rw [World.setRow_alloc_new]; exact h
end

theorem owned_any (x : Int) (w : World) : Calls Tryd.prog 23 #[.int .i64 x] w fun e w' => e = .returned (.agg #[.int .i64 x, .int .u32 0]) ∧ w.grownBy w' none := by
  go_enter Tryd.func23, Tryd.ntmps23
  go_wp2
  refine ret1 rfl (by rfl) (heap_alloc_new _ _) ?_
  exact ⟨rfl, grown_alloc (grown_refl _ _) _⟩
theorem shared_any (m : Int) (w : World) : Calls Tryd.prog 25 #[.int .u32 m] w fun e w' => e = .returned (.agg #[.int .i64 (-1), .int .u32 m]) ∧ w.grownBy w' none := by
  go_enter Tryd.func25, Tryd.ntmps25
  go_wp2
  refine ret1 rfl (by rfl) (heap_alloc_new _ _) ?_
  exact ⟨rfl, grown_alloc (grown_refl _ _) _⟩
theorem core_any (x : Int) (w : World) : Calls Tryd.prog 26 #[.int .i64 x] w fun e w' => e = .returned (.bool (decide (0 ≤ x ∧ x ≤ 15))) ∧ w = w' := by
  by_cases h0 : 0 ≤ x
  · by_cases h1 : x < 16
    · rw [decide_eq_true (p := 0 ≤ x ∧ x ≤ 15) (by omega)]
      go_enter Tryd.func26, Tryd.ntmps26
      go_wp2
      go_ret
      exact ⟨rfl, rfl⟩
    · rw [decide_eq_false (p := 0 ≤ x ∧ x ≤ 15) (by omega)]
      go_enter Tryd.func26, Tryd.ntmps26
      go_wp2
      go_ret
      exact ⟨rfl, rfl⟩
  · rw [decide_eq_false (p := 0 ≤ x ∧ x ≤ 15) (by omega)]
    go_enter Tryd.func26, Tryd.ntmps26
    go_wp2
    go_ret
    exact ⟨rfl, rfl⟩
end Go.Proofs.YtplebmafdfciaaaDoor.en
