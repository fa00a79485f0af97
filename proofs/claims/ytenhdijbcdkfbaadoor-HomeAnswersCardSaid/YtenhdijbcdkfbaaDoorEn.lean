/-
  An entry as two cells, the model's '==' at two entries; what the small functions of package entry answer: contracts. No condition but the bounds that each theorem names.
  Whether an entry may be, whether an ask may, who is known: what package entry and the document's own answer: contracts. No condition but the bounds that each theorem names.
  Whether an ask may be, who is known, the free entry; whether the document's own entry and ask may be: contracts. No condition but the bounds that each theorem names.
  Whether an entry and an ask may be, by the document's own text: contracts. No condition but the bounds that each theorem names.
  What an ask makes of an entry, by package entry and by the document's own text; what a block that goes back does: contracts. No condition but the bounds that each theorem names.
  What a block that goes back makes of an entry, by package entry and by the document's own text: contracts. No condition but the bounds that each theorem names.
  The law's own 'works'; what a block that goes back makes of an entry by the document's own text; the law EntryBacks returns true: contracts. No condition but the bounds that each theorem names.
-/
import Derived.Test.YtenhdijbcdkfbaaDoorMa
import Derived.Laws.StructEq
import Derived.Deep.WholeRow
import Derived.Deep.RegionHeld3
import Derived.Below
namespace Go.Proofs.YtenhdijbcdkfbaaDoor.en
open Go Go.ChangeShapes Go.WideShapes Go.ChangeAt Go.RowKit
open Go.Proofs.YtenhdijbcdkfbaaDoor.mm (wi wo ha pop wi_lt wo_lt with_any)
set_option linter.unusedVariables false

theorem grown_alloc {w w' : World} {own : Option Nat} (h : w.grownBy w' own) (o : Obj) : w.grownBy (w'.alloc o) own :=
  ⟨h.os, h.tape, h.output, by have := h.size; simp; omega, fun k hk hn => (Below.heap_alloc _ _ _ (Nat.lt_of_lt_of_le hk h.size)).trans (h.block k hk hn)⟩
theorem grown_refl (w : World) (own : Option Nat) : w.grownBy w own := ⟨rfl, rfl, rfl, Nat.le_refl _, fun _ _ _ => rfl⟩
theorem grown_trans {a b c : World} {own : Option Nat} (h : a.grownBy b own) (k : b.grownBy c own) : a.grownBy c own :=
  ⟨k.os.trans h.os, k.tape.trans h.tape, k.output.trans h.output, Nat.le_trans h.size k.size, fun i hi hn => (k.block i (Nat.lt_of_lt_of_le hi h.size) hn).trans (h.block i hi hn)⟩
theorem grown_drew {w w' : World} {own : Option Nat} (h : w.grownBy w' own) : w.grownBy w'.drew own := ⟨h.os, h.tape, h.output, h.size, h.block⟩
theorem grown_drewN {w w' : World} {own : Option Nat} (h : w.grownBy w' own) (n : Nat) : w.grownBy (w'.drewN n) own := ⟨h.os, h.tape, h.output, h.size, h.block⟩
theorem below_of {w w' : World} (h : w.grownBy w' none) : Below w.heap.size w w' := ⟨h.os, h.tape, h.output, h.size, fun k hk => h.block k hk (by simp)⟩

/-- An entry: its owner, its sharers. -/
structure En where
  o : Int
  s : Nat
deriving DecidableEq
def ea (e : En) : Array Value := #[.int .i64 e.o, .int .u32 (e.s : Int)]
/-- May it be? -/
def En.may (e : En) : Bool := decide (-1 ≤ e.o ∧ e.o ≤ 15 ∧ e.s < 65536 ∧ (e.o ≠ -1 → e.s = 0))
/-- May an ask be? -/
def ask (e : En) (k x : Int) : Bool := e.may && decide (0 ≤ x ∧ x ≤ 15) && decide (k = 1 ∨ k = 2)
def free : En := ⟨-1, 0⟩

theorem stoodE : Tryd.prog.stoodInHeld 47 = false := by kernel_rfl
theorem fieldsE : Tryd.prog.underlying 47 = some (.struct (Tryd.prog.fieldsOf 47)) := by kernel_rfl
theorem eqIk (k : Nat) (hk : 1 ≤ k) (w : World) (t : TypeId) (q : IntKind) (a b : Int) (h : Tryd.prog.underlying t = some (.int q)) : (Op.equalIn k t (.int q a) (.int q b)).run Tryd.prog w = .ok (a == b) w := by
  obtain ⟨d, rfl⟩ : ∃ d, k = d + 1 := ⟨k - 1, by omega⟩
  exact run_equalIn_int w d t q q a b h
theorem eqEk (k : Nat) (hk : 3 ≤ k) (w : World) (a b c d : Int) : (Op.equalIn k 47 (.agg #[.int .i64 a, .int .u32 b]) (.agg #[.int .i64 c, .int .u32 d])).run Tryd.prog w = .ok (decide (a = c ∧ b = d)) w := by
  obtain ⟨n, rfl⟩ : ∃ n, k = n + 1 := ⟨k - 1, by omega⟩
  rw [run_equalIn_agg w n 47 _ _ fieldsE stoodE]
  simp only [Program.fieldsOf, Tryd.underlying47]
  have p0 : ∀ x y : Int, (part 3 #[.int .i64 x, .int .u32 y] 0).run Tryd.prog w = .ok (.int .i64 x) w := fun x y => by simp [part, isAgg, run_underlying Tryd.underlying3]
  have p1 : ∀ x y : Int, (part 45 #[.int .i64 x, .int .u32 y] 1).run Tryd.prog w = .ok (.int .u32 y) w := fun x y => by simp [part, isAgg, run_underlying Tryd.underlying45]
  have e0 := eqIk n (by omega) w 3 .i64 a c Tryd.underlying3
  have e1 := eqIk n (by omega) w 45 .u32 b d Tryd.underlying45
  simp [Op.eqFields, Sem.run_bind, p0, p1, e0, e1]
  by_cases h1 : a = c
  · by_cases h2 : b = d <;> simp [h1, h2]
  · simp [h1]
theorem eqE (w : World) (a b c d : Int) : (binOp .eql 47 (.agg #[.int .i64 a, .int .u32 b]) (.agg #[.int .i64 c, .int .u32 d])).run Tryd.prog w = .ok (.bool (decide (a = c ∧ b = d))) w := by
  rw [run_eql_struct, eqEk 10000 (by omega) w a b c d]
  rfl

theorem infoE (a b : Value) : (Tryd.prog.info? 47).map (·.size) = some (#[a, b] : Array Value).size := by
  have : (Tryd.prog.info? 47).map (·.size) = some 2 := by kernel_rfl
  exact this
/-- A function whose one result is an entry's variable. -/
theorem ret1 {fn : Func} {p : Tmp} (h : fn.results = #[.cell p 47]) {tmps : Array Value} {w : World} {g : Nat} {t : TypeId} {a b : Value} {fr : Nat × Nat} {Q : Ending → World → Prop}
    (hp : tmps.getD p undef = .pointer (some ⟨g, 0, none⟩)) (hg : w.heap[g]? = some (.cells #[a, b] t fr)) (hQ : Q (.returned (.agg #[a, b])) w) : bodyPost Tryd.prog fn Q .ret { tmps := tmps, defers := [] } w :=
  bodyPost_ret (v := .agg #[a, b]) (results_cell_row h _ _ g t #[a, b] fr _ hp hg Tryd.underlying47 rfl (infoE a b)) rfl hQ
/-- One whose first result is, of three. -/
theorem ret3 {fn : Func} {p u v : Tmp} (h : fn.results = #[.cell p 47, .tmp u, .tmp v]) {tmps : Array Value} {w : World} {g : Nat} {t : TypeId} {a b x y : Value} {fr : Nat × Nat} {Q : Ending → World → Prop}
    (hp : tmps.getD p undef = .pointer (some ⟨g, 0, none⟩)) (hu : tmps.getD u undef = x) (hv : tmps.getD v undef = y) (hg : w.heap[g]? = some (.cells #[a, b] t fr)) (hQ : Q (.returned (.tuple #[.agg #[a, b], x, y])) w) : bodyPost Tryd.prog fn Q .ret { tmps := tmps, defers := [] } w := by
  refine bodyPost_ret (v := .tuple #[.agg #[a, b], x, y]) ?_ rfl hQ
  have hl := run_loadVar_row (P := Tryd.prog) w g t 47 #[a, b] fr _ hg Tryd.underlying47 rfl (infoE a b)
  have hp' : tmps[p]?.getD undef = .pointer (some ⟨g, 0, none⟩) := by simpa using hp
  have hu' : tmps[u]?.getD undef = x := by simpa using hu
  have hv' : tmps[v]?.getD undef = y := by simpa using hv
  simp [results, h, hp', hu', hv', asAddr, hl]

theorem grown_setRow {w w1 : World} (h : w.grownBy w1 none) (g : Nat) (hg : w.heap.size ≤ g) (c : Array Value) : w.grownBy (w1.setRow g c) none :=
  ⟨h.os, h.tape, h.output, by have := h.size; simp; omega, fun k hk hn => (setRow_other _ _ _ _ (by omega)).trans (h.block k hk hn)⟩
theorem row_grown {w w' : World} {g : Nat} {o : Obj} (h : w.heap[g]? = some o) (hg : w.grownBy w' none) : w'.heap[g]? = some o :=
  (hg.block g (Array.getElem?_eq_some_iff.1 h).1 (by simp)).trans h
section
variable {w : World} {ops : Array Oper} {rest : List Oper} {a : Act} {Q : Exit → Act → World → Prop} {dst : Option Tmp} {ty : TypeId} {pos : String} {after : Array Edge}
/-- An entry out of a variable. -/
theorem load_en (p q : Value) (t : TypeId) (fr : Nat × Nat) (x : Tmp) (g : Nat) (hx : a.eval (.tmp x) = .pointer (some ⟨g, 0, none⟩)) (hg : w.heap[g]? = some (.cells #[p, q] t fr))
    (h : wpList Tryd.prog ops Q rest (a.put dst (.agg #[p, q])) w) : wpList Tryd.prog ops Q (⟨dst, .load 47 (.tmp x), ty, pos, after, none⟩ :: rest) a w :=
  wpList_load_row rfl 47 (.tmp x) rfl g hx t _ fr _ hg Tryd.underlying47 rfl (infoE p q) h
/-- An entry into a variable. -/
theorem store_en (p q : Int) (c : Array Value) (t : TypeId) (x y : Tmp) (g : Nat) (hx : a.eval (.tmp x) = .pointer (some ⟨g, 0, none⟩)) (hy : a.eval (.tmp y) = .agg #[.int .i64 p, .int .u32 q]) (hg : w.heap[g]? = some (.cells c t (0, 0))) (hc : c.size = 2)
    (h : wpList Tryd.prog ops Q rest (a.put dst undef) (w.setRow g #[.int .i64 p, .int .u32 q])) : wpList Tryd.prog ops Q (⟨dst, .store 47 (.tmp x) (.tmp y), ty, pos, after, none⟩ :: rest) a w :=
  wpList_store_row rfl 47 (.tmp x) (.tmp y) rfl g _ hx hy t _ hg (infoE _ _) (by rw [hc]; rfl) (by simp [Value.oneCell']) h
end

theorem owned_any (x : Int) (w : World) : Calls Tryd.prog 87 #[.int .i64 x] w fun e w' => e = .returned (.agg #[.int .i64 x, .int .u32 0]) ∧ w.grownBy w' none := by
  go_enter Tryd.func87, Tryd.ntmps87
  go_wp2
  refine ret1 rfl (by rfl) (heap_alloc_new _ _) ?_
  exact ⟨rfl, grown_alloc (grown_refl _ _) _⟩
theorem shared_any (m : Int) (w : World) : Calls Tryd.prog 54 #[.int .u32 m] w fun e w' => e = .returned (.agg #[.int .i64 (-1), .int .u32 m]) ∧ w.grownBy w' none := by
  go_enter Tryd.func54, Tryd.ntmps54
  go_wp2
  refine ret1 rfl (by rfl) (heap_alloc_new _ _) ?_
  exact ⟨rfl, grown_alloc (grown_refl _ _) _⟩
theorem core_any (x : Int) (w : World) : Calls Tryd.prog 90 #[.int .i64 x] w fun e w' => e = .returned (.bool (decide (0 ≤ x ∧ x ≤ 15))) ∧ w = w' := by
  by_cases h0 : 0 ≤ x
  · by_cases h1 : x < 16
    · rw [decide_eq_true (p := 0 ≤ x ∧ x ≤ 15) (by omega)]
      go_enter Tryd.func90, Tryd.ntmps90
      go_wp2
      go_ret
      exact ⟨rfl, rfl⟩
    · rw [decide_eq_false (p := 0 ≤ x ∧ x ≤ 15) (by omega)]
      go_enter Tryd.func90, Tryd.ntmps90
      go_wp2
      go_ret
      exact ⟨rfl, rfl⟩
  · rw [decide_eq_false (p := 0 ≤ x ∧ x ≤ 15) (by omega)]
    go_enter Tryd.func90, Tryd.ntmps90
    go_wp2
    go_ret
    exact ⟨rfl, rfl⟩
end Go.Proofs.YtenhdijbcdkfbaaDoor.en

namespace Go.Proofs.YtenhdijbcdkfbaaDoor.en
open Go Go.ChangeShapes Go.WideShapes Go.ChangeAt Go.RowKit
open Go.Proofs.YtenhdijbcdkfbaaDoor.mm (wi wo ha pop wi_lt wo_lt with_any ret_i64 ret_bool ret_u32)
set_option linter.unusedVariables false

theorem next2 {w w' : World} {b : Nat} {x y : Value} (h : w.cell? ⟨b, 0, none⟩ = some x ∧ w.cell? ⟨b, 1, none⟩ = some y) (hg : w.grownBy w' none) : w'.cell? ⟨b, 0, none⟩ = some x ∧ w'.cell? ⟨b, 1, none⟩ = some y :=
  ⟨hg.cell h.1 (by simp), hg.cell h.2 (by simp)⟩
theorem new2 (w : World) (x y : Value) (t : TypeId) : (w.alloc (.cells #[x, y] t)).cell? ⟨w.heap.size, 0, none⟩ = some x ∧ (w.alloc (.cells #[x, y] t)).cell? ⟨w.heap.size, 1, none⟩ = some y :=
  ⟨cell_of_row _ _ 0 _ _ _ (heap_alloc_new _ _), cell_of_row _ _ 1 _ _ _ (heap_alloc_new _ _)⟩
theorem low16 (s : Nat) (hs : s < 4294967296) : bits .and .u32 (s : Int) 65535 = ((s % 65536 : Nat) : Int) := by
  have := u32_and_nat s 65535 hs (by omega)
  rw [show (65535 : Int) = ((65535 : Nat) : Int) from rfl, this, show (65535 : Nat) = 2 ^ 16 - 1 by decide, Nat.and_two_pow_sub_one_eq_mod]
theorem may_yes {o : Int} {s : Nat} (h : -1 ≤ o ∧ o ≤ 15 ∧ s < 65536 ∧ (o ≠ -1 → s = 0)) : En.may ⟨o, s⟩ = true := decide_eq_true h
theorem may_no {o : Int} {s : Nat} (h : ¬ (-1 ≤ o ∧ o ≤ 15 ∧ s < 65536 ∧ (o ≠ -1 → s = 0))) : En.may ⟨o, s⟩ = false := decide_eq_false h
def err (b : Bool) : Int := if b then 0 else 2

set_option maxHeartbeats 1000000 in
set_option maxRecDepth 1000000 in
theorem may_a (s : Nat) (w : World) (hs : s < 65536) : Calls Tryd.prog 89 #[.agg #[.int .i64 (-1), .int .u32 (s : Int)]] w fun e w' => e = .returned (.int .i64 0) ∧ w.grownBy w' none := by
  have HG0 : Hid (w.grownBy (w.alloc (.cells #[.int .i64 (-1), .int .u32 (s : Int)] 47)) none) := Lib.hid (grown_alloc (grown_refl _ _) _)
  have HC := Lib.hid (new2 w (.int .i64 (-1)) (.int .u32 (s : Int)) 47)
  have hb := low16 s (by omega)
  rw [Nat.mod_eq_of_lt hs] at hb
  have HS : Hid (∀ w, _) := Lib.hid fun w => shared_any (s : Int) w
  have he := eqE
  go_enter Tryd.func89, Tryd.ntmps89
  go_wp2_with fail
  refine wp_region_held_drew (S := fun w' => (w'.cell? ⟨w.heap.size, 0, none⟩ = some (.int .i64 (-1)) ∧ w'.cell? ⟨w.heap.size, 1, none⟩ = some (.int .u32 (s : Int))) ∧ w.grownBy w' none) (by kernel_rfl) ⟨next2 HC.out (grown_drew (grown_refl _ _)), grown_drew HG0.out⟩ (fun hHeld => ?_)
  generalize (w.alloc _).drew = wd at hHeld ⊢
  refine wpAnyH_take (i := 0) (oi := ⟨some 3, Op.load 47 (Operand.tmp 1), _, _, _, _⟩) (v := ?v1) rfl (by kernel_rfl) (by kernel_rfl) (by kernel_rfl) (fun _ _ _ h => h) (Or.inl ⟨by rfl, ?hy1⟩) (by assumption) ?rest1
  case hy1 => ((intro w0 hSw; obtain ⟨⟨hs1, hs2⟩, hs3⟩ := hSw; go_simp); try (with_reducible rfl))
  try simp only [Act.put, List.setIfInBounds_toArray, List.set_cons_zero, List.set_cons_succ]
  refine wpAnyH_take (i := 1) (oi := ⟨some 4, Op.fieldAddr 47 (Operand.tmp 1) 1, _, _, _, _⟩) (v := ?v2) rfl (by kernel_rfl) (by kernel_rfl) (by kernel_rfl) (fun _ _ _ h => h) (Or.inl ⟨by rfl, ?hy2⟩) (by assumption) ?rest2
  case hy2 => ((intro w0 hSw; obtain ⟨⟨hs1, hs2⟩, hs3⟩ := hSw; go_simp); try (with_reducible rfl))
  try simp only [Act.put, List.setIfInBounds_toArray, List.set_cons_zero, List.set_cons_succ]
  refine wpAnyH_take (i := 2) (oi := ⟨some 5, Op.load 45 (Operand.tmp 4), _, _, _, _⟩) (v := ?v3) rfl (by kernel_rfl) (by kernel_rfl) (by kernel_rfl) (fun _ _ _ h => h) (Or.inl ⟨by rfl, ?hy3⟩) (by assumption) ?rest3
  case hy3 => ((intro w0 hSw; obtain ⟨⟨hs1, hs2⟩, hs3⟩ := hSw; go_simp); try (with_reducible rfl))
  try simp only [Act.put, List.setIfInBounds_toArray, List.set_cons_zero, List.set_cons_succ]
  refine wpAnyH_take (i := 3) (oi := ⟨some 6, Op.binOp BinOp.and 45 (Operand.tmp 5) (Operand.const (Value.int IntKind.u32 65535)) _, _, _, _, _⟩) (v := ?v4) rfl (by kernel_rfl) (by kernel_rfl) (by kernel_rfl) (fun _ _ _ h => h) (Or.inl ⟨by rfl, ?hy4⟩) (by assumption) ?rest4
  case hy4 => ((intro w0 hSw; obtain ⟨⟨hs1, hs2⟩, hs3⟩ := hSw; go_simp); try (with_reducible rfl))
  try simp only [Act.put, List.setIfInBounds_toArray, List.set_cons_zero, List.set_cons_succ]
  refine wpAnyH_ready (rs := [4]) (by kernel_rfl) (by simp) ?_
  refine AllReadyH.cons (o := ⟨some 7, Op.call { callee := Callee.value (Operand.func 54), args := #[(Operand.tmp 6)], argTypes := #[45] }, _, _, _, _⟩) rfl (fun K hK => ?_) AllReadyH.nil
  go_simp
  (with_reducible refine (HS.out _).mono ?_); rintro e w5 ⟨rfl, hg5⟩
  go_wp2_with fail
  refine hK.out _ _ ⟨next2 hHeld.1 hg5, grown_trans hHeld.2 hg5⟩ (fun hHeld => ?_)
  clear hK K
  try simp only [Act.put, List.setIfInBounds_toArray, List.set_cons_zero, List.set_cons_succ]
  refine wpAnyH_take (i := 5) (oi := ⟨some 8, Op.binOp BinOp.eql 47 (Operand.tmp 3) (Operand.tmp 7) _, _, _, _, _⟩) (v := ?v5) rfl (by kernel_rfl) (by kernel_rfl) (by kernel_rfl) (fun _ _ _ h => h) (Or.inl ⟨by rfl, ?hy5⟩) (by assumption) ?rest5
  case hy5 => ((intro w0 hSw; obtain ⟨⟨hs1, hs2⟩, hs3⟩ := hSw; go_simp); try (with_reducible rfl))
  try simp only [Act.put, List.setIfInBounds_toArray, List.set_cons_zero, List.set_cons_succ]
  refine wpAnyH_take (i := 6) (oi := ⟨some 9, Op.move (Operand.tmp 8), _, _, _, _⟩) (v := ?v6) rfl (by kernel_rfl) (by kernel_rfl) (by kernel_rfl) (fun _ _ _ h => h) (Or.inl ⟨by rfl, ?hy6⟩) (by assumption) ?rest6
  case hy6 => ((intro w0 hSw; go_simp); try (with_reducible rfl))
  try simp only [Act.put, List.setIfInBounds_toArray, List.set_cons_zero, List.set_cons_succ]
  refine wpAnyH_take (i := 7) (oi := ⟨some 10, Op.fieldAddr 47 (Operand.tmp 1) 0, _, _, _, _⟩) (v := undef) rfl (by kernel_rfl) (by kernel_rfl) (by kernel_rfl) (fun _ _ _ h => h) (Or.inr ⟨by rfl, rfl⟩) (by assumption) ?rest7
  try simp only [Act.put, List.setIfInBounds_toArray, List.set_cons_zero, List.set_cons_succ]
  refine wpAnyH_take (i := 8) (oi := ⟨some 11, Op.load 3 (Operand.tmp 10), _, _, _, _⟩) (v := undef) rfl (by kernel_rfl) (by kernel_rfl) (by kernel_rfl) (fun _ _ _ h => h) (Or.inr ⟨by rfl, rfl⟩) (by assumption) ?rest8
  try simp only [Act.put, List.setIfInBounds_toArray, List.set_cons_zero, List.set_cons_succ]
  refine wpAnyH_take (i := 9) (oi := ⟨some 12, Op.call { callee := Callee.value (Operand.func 90), args := #[(Operand.tmp 11)], argTypes := #[3] }, _, _, _, _⟩) (v := undef) rfl (by kernel_rfl) (by kernel_rfl) (by kernel_rfl) (fun _ _ _ h => h) (Or.inr ⟨by rfl, rfl⟩) (by assumption) ?rest9
  try simp only [Act.put, List.setIfInBounds_toArray, List.set_cons_zero, List.set_cons_succ]
  refine wpAnyH_take (i := 10) (oi := ⟨some 13, Op.move (Operand.tmp 12), _, _, _, _⟩) (v := undef) rfl (by kernel_rfl) (by kernel_rfl) (by kernel_rfl) (fun _ _ _ h => h) (Or.inr ⟨by rfl, rfl⟩) (by assumption) ?rest10
  try simp only [Act.put, List.setIfInBounds_toArray, List.set_cons_zero, List.set_cons_succ]
  refine wpAnyH_take (i := 11) (oi := ⟨some 14, Op.load 47 (Operand.tmp 1), _, _, _, _⟩) (v := undef) rfl (by kernel_rfl) (by kernel_rfl) (by kernel_rfl) (fun _ _ _ h => h) (Or.inr ⟨by rfl, rfl⟩) (by assumption) ?rest11
  try simp only [Act.put, List.setIfInBounds_toArray, List.set_cons_zero, List.set_cons_succ]
  refine wpAnyH_take (i := 12) (oi := ⟨some 15, Op.fieldAddr 47 (Operand.tmp 1) 0, _, _, _, _⟩) (v := undef) rfl (by kernel_rfl) (by kernel_rfl) (by kernel_rfl) (fun _ _ _ h => h) (Or.inr ⟨by rfl, rfl⟩) (by assumption) ?rest12
  try simp only [Act.put, List.setIfInBounds_toArray, List.set_cons_zero, List.set_cons_succ]
  refine wpAnyH_take (i := 13) (oi := ⟨some 16, Op.load 3 (Operand.tmp 15), _, _, _, _⟩) (v := undef) rfl (by kernel_rfl) (by kernel_rfl) (by kernel_rfl) (fun _ _ _ h => h) (Or.inr ⟨by rfl, rfl⟩) (by assumption) ?rest13
  try simp only [Act.put, List.setIfInBounds_toArray, List.set_cons_zero, List.set_cons_succ]
  refine wpAnyH_take (i := 14) (oi := ⟨some 17, Op.call { callee := Callee.value (Operand.func 87), args := #[(Operand.tmp 16)], argTypes := #[3] }, _, _, _, _⟩) (v := undef) rfl (by kernel_rfl) (by kernel_rfl) (by kernel_rfl) (fun _ _ _ h => h) (Or.inr ⟨by rfl, rfl⟩) (by assumption) ?rest14
  try simp only [Act.put, List.setIfInBounds_toArray, List.set_cons_zero, List.set_cons_succ]
  refine wpAnyH_take (i := 15) (oi := ⟨some 18, Op.binOp BinOp.eql 47 (Operand.tmp 14) (Operand.tmp 17) _, _, _, _, _⟩) (v := undef) rfl (by kernel_rfl) (by kernel_rfl) (by kernel_rfl) (fun _ _ _ h => h) (Or.inr ⟨by rfl, rfl⟩) (by assumption) ?rest15
  try simp only [Act.put, List.setIfInBounds_toArray, List.set_cons_zero, List.set_cons_succ]
  refine wpAnyH_take (i := 16) (oi := ⟨some 19, Op.pick (Operand.tmp 13) (Operand.tmp 18) (Operand.const (Value.bool false)), _, _, _, _⟩) (v := undef) rfl (by kernel_rfl) (by kernel_rfl) (by kernel_rfl) (fun _ _ _ h => h) (Or.inr ⟨by rfl, rfl⟩) (by assumption) ?rest16
  try simp only [Act.put, List.setIfInBounds_toArray, List.set_cons_zero, List.set_cons_succ]
  refine wpAnyH_take (i := 17) (oi := ⟨some 20, Op.pick (Operand.tmp 9) (Operand.const (Value.bool true)) (Operand.tmp 19), _, _, _, _⟩) (v := ?v17) rfl (by kernel_rfl) (by kernel_rfl) (by kernel_rfl) (fun _ _ _ h => h) (Or.inl ⟨by rfl, ?hy17⟩) (by assumption) ?rest17
  case hy17 => ((intro w0 hSw; go_simp); try (with_reducible rfl))
  try simp only [Act.put, List.setIfInBounds_toArray, List.set_cons_zero, List.set_cons_succ]
  refine wpAnyH_done (by kernel_rfl) ?_ _
  go_wp2_with fail
  go_ret
  exact ⟨rfl, hHeld.2⟩
set_option maxHeartbeats 1000000 in
set_option maxRecDepth 1000000 in
/-- no core owns it, nor is it nobody's -/
theorem may_b (o : Int) (s : Nat) (w : World) (hs : s < 4294967296) (h1 : ¬ (o = -1 ∧ s < 65536)) (h2 : ¬ (0 ≤ o ∧ o ≤ 15)) : Calls Tryd.prog 89 #[.agg #[.int .i64 o, .int .u32 (s : Int)]] w fun e w' => e = .returned (.int .i64 2) ∧ w.grownBy w' none := by
  have HG0 : Hid (w.grownBy (w.alloc (.cells #[.int .i64 o, .int .u32 (s : Int)] 47)) none) := Lib.hid (grown_alloc (grown_refl _ _) _)
  have HC := Lib.hid (new2 w (.int .i64 o) (.int .u32 (s : Int)) 47)
  have hb := low16 s hs
  obtain ⟨m, hm⟩ : ∃ m : Int, m = ((s % 65536 : Nat) : Int) := ⟨_, rfl⟩
  have hd : decide (o = -1 ∧ (s : Int) = m) = false := decide_eq_false (by omega)
  rw [← hm] at hb
  have HS : Hid (∀ w, _) := Lib.hid fun w => shared_any m w
  have HI : Hid (∀ w, _) := Lib.hid fun w => core_any o w
  rw [decide_eq_false h2] at HI
  have he : ∀ w, (binOp .eql 47 (.agg #[.int .i64 o, .int .u32 (s : Int)]) (.agg #[.int .i64 (-1), .int .u32 m])).run Tryd.prog w = .ok (.bool false) w := fun w => by rw [eqE, hd]
  clear h1 h2 hm hd hs
  go_enter Tryd.func89, Tryd.ntmps89
  go_wp2_with fail
  refine wp_region_held_drew (S := fun w' => (w'.cell? ⟨w.heap.size, 0, none⟩ = some (.int .i64 o) ∧ w'.cell? ⟨w.heap.size, 1, none⟩ = some (.int .u32 (s : Int))) ∧ w.grownBy w' none) (by kernel_rfl) ⟨next2 HC.out (grown_drew (grown_refl _ _)), grown_drew HG0.out⟩ (fun hHeld => ?_)
  generalize (w.alloc _).drew = wd at hHeld ⊢
  refine wpAnyH_take (i := 0) (oi := ⟨some 3, Op.load 47 (Operand.tmp 1), _, _, _, _⟩) (v := ?v18) rfl (by kernel_rfl) (by kernel_rfl) (by kernel_rfl) (fun _ _ _ h => h) (Or.inl ⟨by rfl, ?hy18⟩) (by assumption) ?rest18
  case hy18 => ((intro w0 hSw; obtain ⟨⟨hs1, hs2⟩, hs3⟩ := hSw; go_simp); try (with_reducible rfl))
  try simp only [Act.put, List.setIfInBounds_toArray, List.set_cons_zero, List.set_cons_succ]
  refine wpAnyH_take (i := 1) (oi := ⟨some 4, Op.fieldAddr 47 (Operand.tmp 1) 1, _, _, _, _⟩) (v := ?v19) rfl (by kernel_rfl) (by kernel_rfl) (by kernel_rfl) (fun _ _ _ h => h) (Or.inl ⟨by rfl, ?hy19⟩) (by assumption) ?rest19
  case hy19 => ((intro w0 hSw; obtain ⟨⟨hs1, hs2⟩, hs3⟩ := hSw; go_simp); try (with_reducible rfl))
  try simp only [Act.put, List.setIfInBounds_toArray, List.set_cons_zero, List.set_cons_succ]
  refine wpAnyH_take (i := 2) (oi := ⟨some 5, Op.load 45 (Operand.tmp 4), _, _, _, _⟩) (v := ?v20) rfl (by kernel_rfl) (by kernel_rfl) (by kernel_rfl) (fun _ _ _ h => h) (Or.inl ⟨by rfl, ?hy20⟩) (by assumption) ?rest20
  case hy20 => ((intro w0 hSw; obtain ⟨⟨hs1, hs2⟩, hs3⟩ := hSw; go_simp); try (with_reducible rfl))
  try simp only [Act.put, List.setIfInBounds_toArray, List.set_cons_zero, List.set_cons_succ]
  refine wpAnyH_take (i := 3) (oi := ⟨some 6, Op.binOp BinOp.and 45 (Operand.tmp 5) (Operand.const (Value.int IntKind.u32 65535)) _, _, _, _, _⟩) (v := ?v21) rfl (by kernel_rfl) (by kernel_rfl) (by kernel_rfl) (fun _ _ _ h => h) (Or.inl ⟨by rfl, ?hy21⟩) (by assumption) ?rest21
  case hy21 => ((intro w0 hSw; obtain ⟨⟨hs1, hs2⟩, hs3⟩ := hSw; go_simp); try (with_reducible rfl))
  try simp only [Act.put, List.setIfInBounds_toArray, List.set_cons_zero, List.set_cons_succ]
  refine wpAnyH_ready (rs := [4]) (by kernel_rfl) (by simp) ?_
  refine AllReadyH.cons (o := ⟨some 7, Op.call { callee := Callee.value (Operand.func 54), args := #[(Operand.tmp 6)], argTypes := #[45] }, _, _, _, _⟩) rfl (fun K hK => ?_) AllReadyH.nil
  go_simp
  (with_reducible refine (HS.out _).mono ?_); rintro e w5 ⟨rfl, hg5⟩
  go_wp2_with fail
  refine hK.out _ _ ⟨next2 hHeld.1 hg5, grown_trans hHeld.2 hg5⟩ (fun hHeld => ?_)
  clear hK K
  try simp only [Act.put, List.setIfInBounds_toArray, List.set_cons_zero, List.set_cons_succ]
  refine wpAnyH_take (i := 5) (oi := ⟨some 8, Op.binOp BinOp.eql 47 (Operand.tmp 3) (Operand.tmp 7) _, _, _, _, _⟩) (v := ?v22) rfl (by kernel_rfl) (by kernel_rfl) (by kernel_rfl) (fun _ _ _ h => h) (Or.inl ⟨by rfl, ?hy22⟩) (by assumption) ?rest22
  case hy22 => ((intro w0 hSw; obtain ⟨⟨hs1, hs2⟩, hs3⟩ := hSw; go_simp); try (with_reducible rfl))
  try simp only [Act.put, List.setIfInBounds_toArray, List.set_cons_zero, List.set_cons_succ]
  refine wpAnyH_take (i := 6) (oi := ⟨some 9, Op.move (Operand.tmp 8), _, _, _, _⟩) (v := ?v23) rfl (by kernel_rfl) (by kernel_rfl) (by kernel_rfl) (fun _ _ _ h => h) (Or.inl ⟨by rfl, ?hy23⟩) (by assumption) ?rest23
  case hy23 => ((intro w0 hSw; go_simp); try (with_reducible rfl))
  try simp only [Act.put, List.setIfInBounds_toArray, List.set_cons_zero, List.set_cons_succ]
  refine wpAnyH_take (i := 7) (oi := ⟨some 10, Op.fieldAddr 47 (Operand.tmp 1) 0, _, _, _, _⟩) (v := ?v24) rfl (by kernel_rfl) (by kernel_rfl) (by kernel_rfl) (fun _ _ _ h => h) (Or.inl ⟨by rfl, ?hy24⟩) (by assumption) ?rest24
  case hy24 => ((intro w0 hSw; obtain ⟨⟨hs1, hs2⟩, hs3⟩ := hSw; go_simp); try (with_reducible rfl))
  try simp only [Act.put, List.setIfInBounds_toArray, List.set_cons_zero, List.set_cons_succ]
  refine wpAnyH_take (i := 8) (oi := ⟨some 11, Op.load 3 (Operand.tmp 10), _, _, _, _⟩) (v := ?v25) rfl (by kernel_rfl) (by kernel_rfl) (by kernel_rfl) (fun _ _ _ h => h) (Or.inl ⟨by rfl, ?hy25⟩) (by assumption) ?rest25
  case hy25 => ((intro w0 hSw; obtain ⟨⟨hs1, hs2⟩, hs3⟩ := hSw; go_simp); try (with_reducible rfl))
  try simp only [Act.put, List.setIfInBounds_toArray, List.set_cons_zero, List.set_cons_succ]
  refine wpAnyH_ready (rs := [9]) (by kernel_rfl) (by simp) ?_
  refine AllReadyH.cons (o := ⟨some 12, Op.call { callee := Callee.value (Operand.func 90), args := #[(Operand.tmp 11)], argTypes := #[3] }, _, _, _, _⟩) rfl (fun K hK => ?_) AllReadyH.nil
  go_simp
  (with_reducible refine (HI.out _).mono ?_); rintro e w6 ⟨rfl, rfl⟩
  go_wp2_with fail
  refine hK.out _ _ hHeld (fun hHeld => ?_)
  clear hK K
  try simp only [Act.put, List.setIfInBounds_toArray, List.set_cons_zero, List.set_cons_succ]
  refine wpAnyH_take (i := 10) (oi := ⟨some 13, Op.move (Operand.tmp 12), _, _, _, _⟩) (v := ?v26) rfl (by kernel_rfl) (by kernel_rfl) (by kernel_rfl) (fun _ _ _ h => h) (Or.inl ⟨by rfl, ?hy26⟩) (by assumption) ?rest26
  case hy26 => ((intro w0 hSw; go_simp); try (with_reducible rfl))
  try simp only [Act.put, List.setIfInBounds_toArray, List.set_cons_zero, List.set_cons_succ]
  refine wpAnyH_take (i := 11) (oi := ⟨some 14, Op.load 47 (Operand.tmp 1), _, _, _, _⟩) (v := undef) rfl (by kernel_rfl) (by kernel_rfl) (by kernel_rfl) (fun _ _ _ h => h) (Or.inr ⟨by rfl, rfl⟩) (by assumption) ?rest27
  try simp only [Act.put, List.setIfInBounds_toArray, List.set_cons_zero, List.set_cons_succ]
  refine wpAnyH_take (i := 12) (oi := ⟨some 15, Op.fieldAddr 47 (Operand.tmp 1) 0, _, _, _, _⟩) (v := undef) rfl (by kernel_rfl) (by kernel_rfl) (by kernel_rfl) (fun _ _ _ h => h) (Or.inr ⟨by rfl, rfl⟩) (by assumption) ?rest28
  try simp only [Act.put, List.setIfInBounds_toArray, List.set_cons_zero, List.set_cons_succ]
  refine wpAnyH_take (i := 13) (oi := ⟨some 16, Op.load 3 (Operand.tmp 15), _, _, _, _⟩) (v := undef) rfl (by kernel_rfl) (by kernel_rfl) (by kernel_rfl) (fun _ _ _ h => h) (Or.inr ⟨by rfl, rfl⟩) (by assumption) ?rest29
  try simp only [Act.put, List.setIfInBounds_toArray, List.set_cons_zero, List.set_cons_succ]
  refine wpAnyH_take (i := 14) (oi := ⟨some 17, Op.call { callee := Callee.value (Operand.func 87), args := #[(Operand.tmp 16)], argTypes := #[3] }, _, _, _, _⟩) (v := undef) rfl (by kernel_rfl) (by kernel_rfl) (by kernel_rfl) (fun _ _ _ h => h) (Or.inr ⟨by rfl, rfl⟩) (by assumption) ?rest30
  try simp only [Act.put, List.setIfInBounds_toArray, List.set_cons_zero, List.set_cons_succ]
  refine wpAnyH_take (i := 15) (oi := ⟨some 18, Op.binOp BinOp.eql 47 (Operand.tmp 14) (Operand.tmp 17) _, _, _, _, _⟩) (v := undef) rfl (by kernel_rfl) (by kernel_rfl) (by kernel_rfl) (fun _ _ _ h => h) (Or.inr ⟨by rfl, rfl⟩) (by assumption) ?rest31
  try simp only [Act.put, List.setIfInBounds_toArray, List.set_cons_zero, List.set_cons_succ]
  refine wpAnyH_take (i := 16) (oi := ⟨some 19, Op.pick (Operand.tmp 13) (Operand.tmp 18) (Operand.const (Value.bool false)), _, _, _, _⟩) (v := ?v32) rfl (by kernel_rfl) (by kernel_rfl) (by kernel_rfl) (fun _ _ _ h => h) (Or.inl ⟨by rfl, ?hy32⟩) (by assumption) ?rest32
  case hy32 => ((intro w0 hSw; go_simp); try (with_reducible rfl))
  try simp only [Act.put, List.setIfInBounds_toArray, List.set_cons_zero, List.set_cons_succ]
  refine wpAnyH_take (i := 17) (oi := ⟨some 20, Op.pick (Operand.tmp 9) (Operand.const (Value.bool true)) (Operand.tmp 19), _, _, _, _⟩) (v := ?v33) rfl (by kernel_rfl) (by kernel_rfl) (by kernel_rfl) (fun _ _ _ h => h) (Or.inl ⟨by rfl, ?hy33⟩) (by assumption) ?rest33
  case hy33 => ((intro w0 hSw; go_simp); try (with_reducible rfl))
  try simp only [Act.put, List.setIfInBounds_toArray, List.set_cons_zero, List.set_cons_succ]
  refine wpAnyH_done (by kernel_rfl) ?_ _
  go_wp2_with fail
  go_ret
  exact ⟨rfl, hHeld.2⟩
set_option maxHeartbeats 1000000 in
set_option maxRecDepth 1000000 in
theorem may_c (o : Int) (s : Nat) (w : World) (hs : s < 4294967296) (h2 : 0 ≤ o ∧ o ≤ 15) : Calls Tryd.prog 89 #[.agg #[.int .i64 o, .int .u32 (s : Int)]] w fun e w' => e = .returned (.int .i64 (err (decide (s = 0)))) ∧ w.grownBy w' none := by
  have HG0 : Hid (w.grownBy (w.alloc (.cells #[.int .i64 o, .int .u32 (s : Int)] 47)) none) := Lib.hid (grown_alloc (grown_refl _ _) _)
  have HC := Lib.hid (new2 w (.int .i64 o) (.int .u32 (s : Int)) 47)
  have hb := low16 s hs
  obtain ⟨m, hm⟩ : ∃ m : Int, m = ((s % 65536 : Nat) : Int) := ⟨_, rfl⟩
  have hd : decide (o = -1 ∧ (s : Int) = m) = false := decide_eq_false (by omega)
  rw [← hm] at hb
  have HS : Hid (∀ w, _) := Lib.hid fun w => shared_any m w
  have HI : Hid (∀ w, _) := Lib.hid fun w => core_any o w
  rw [decide_eq_true h2] at HI
  have HO : Hid (∀ w, _) := Lib.hid fun w => owned_any o w
  have he : ∀ w, (binOp .eql 47 (.agg #[.int .i64 o, .int .u32 (s : Int)]) (.agg #[.int .i64 (-1), .int .u32 m])).run Tryd.prog w = .ok (.bool false) w := fun w => by rw [eqE, hd]
  obtain ⟨b, hbb⟩ : ∃ b, b = decide (s = 0) := ⟨_, rfl⟩
  have he2 : ∀ w, (binOp .eql 47 (.agg #[.int .i64 o, .int .u32 (s : Int)]) (.agg #[.int .i64 o, .int .u32 0])).run Tryd.prog w = .ok (.bool b) w := fun w => by
    rw [eqE, hbb]; simp
  rw [← hbb]
  clear h2 hm hd hs hbb
  go_enter Tryd.func89, Tryd.ntmps89
  go_wp2_with fail
  refine wp_region_held_drew (S := fun w' => (w'.cell? ⟨w.heap.size, 0, none⟩ = some (.int .i64 o) ∧ w'.cell? ⟨w.heap.size, 1, none⟩ = some (.int .u32 (s : Int))) ∧ w.grownBy w' none) (by kernel_rfl) ⟨next2 HC.out (grown_drew (grown_refl _ _)), grown_drew HG0.out⟩ (fun hHeld => ?_)
  generalize (w.alloc _).drew = wd at hHeld ⊢
  refine wpAnyH_take (i := 0) (oi := ⟨some 3, Op.load 47 (Operand.tmp 1), _, _, _, _⟩) (v := ?v34) rfl (by kernel_rfl) (by kernel_rfl) (by kernel_rfl) (fun _ _ _ h => h) (Or.inl ⟨by rfl, ?hy34⟩) (by assumption) ?rest34
  case hy34 => ((intro w0 hSw; obtain ⟨⟨hs1, hs2⟩, hs3⟩ := hSw; go_simp); try (with_reducible rfl))
  try simp only [Act.put, List.setIfInBounds_toArray, List.set_cons_zero, List.set_cons_succ]
  refine wpAnyH_take (i := 1) (oi := ⟨some 4, Op.fieldAddr 47 (Operand.tmp 1) 1, _, _, _, _⟩) (v := ?v35) rfl (by kernel_rfl) (by kernel_rfl) (by kernel_rfl) (fun _ _ _ h => h) (Or.inl ⟨by rfl, ?hy35⟩) (by assumption) ?rest35
  case hy35 => ((intro w0 hSw; obtain ⟨⟨hs1, hs2⟩, hs3⟩ := hSw; go_simp); try (with_reducible rfl))
  try simp only [Act.put, List.setIfInBounds_toArray, List.set_cons_zero, List.set_cons_succ]
  refine wpAnyH_take (i := 2) (oi := ⟨some 5, Op.load 45 (Operand.tmp 4), _, _, _, _⟩) (v := ?v36) rfl (by kernel_rfl) (by kernel_rfl) (by kernel_rfl) (fun _ _ _ h => h) (Or.inl ⟨by rfl, ?hy36⟩) (by assumption) ?rest36
  case hy36 => ((intro w0 hSw; obtain ⟨⟨hs1, hs2⟩, hs3⟩ := hSw; go_simp); try (with_reducible rfl))
  try simp only [Act.put, List.setIfInBounds_toArray, List.set_cons_zero, List.set_cons_succ]
  refine wpAnyH_take (i := 3) (oi := ⟨some 6, Op.binOp BinOp.and 45 (Operand.tmp 5) (Operand.const (Value.int IntKind.u32 65535)) _, _, _, _, _⟩) (v := ?v37) rfl (by kernel_rfl) (by kernel_rfl) (by kernel_rfl) (fun _ _ _ h => h) (Or.inl ⟨by rfl, ?hy37⟩) (by assumption) ?rest37
  case hy37 => ((intro w0 hSw; obtain ⟨⟨hs1, hs2⟩, hs3⟩ := hSw; go_simp); try (with_reducible rfl))
  try simp only [Act.put, List.setIfInBounds_toArray, List.set_cons_zero, List.set_cons_succ]
  refine wpAnyH_ready (rs := [4]) (by kernel_rfl) (by simp) ?_
  refine AllReadyH.cons (o := ⟨some 7, Op.call { callee := Callee.value (Operand.func 54), args := #[(Operand.tmp 6)], argTypes := #[45] }, _, _, _, _⟩) rfl (fun K hK => ?_) AllReadyH.nil
  go_simp
  (with_reducible refine (HS.out _).mono ?_); rintro e w5 ⟨rfl, hg5⟩
  go_wp2_with fail
  refine hK.out _ _ ⟨next2 hHeld.1 hg5, grown_trans hHeld.2 hg5⟩ (fun hHeld => ?_)
  clear hK K
  try simp only [Act.put, List.setIfInBounds_toArray, List.set_cons_zero, List.set_cons_succ]
  refine wpAnyH_take (i := 5) (oi := ⟨some 8, Op.binOp BinOp.eql 47 (Operand.tmp 3) (Operand.tmp 7) _, _, _, _, _⟩) (v := ?v38) rfl (by kernel_rfl) (by kernel_rfl) (by kernel_rfl) (fun _ _ _ h => h) (Or.inl ⟨by rfl, ?hy38⟩) (by assumption) ?rest38
  case hy38 => ((intro w0 hSw; obtain ⟨⟨hs1, hs2⟩, hs3⟩ := hSw; go_simp); try (with_reducible rfl))
  try simp only [Act.put, List.setIfInBounds_toArray, List.set_cons_zero, List.set_cons_succ]
  refine wpAnyH_take (i := 6) (oi := ⟨some 9, Op.move (Operand.tmp 8), _, _, _, _⟩) (v := ?v39) rfl (by kernel_rfl) (by kernel_rfl) (by kernel_rfl) (fun _ _ _ h => h) (Or.inl ⟨by rfl, ?hy39⟩) (by assumption) ?rest39
  case hy39 => ((intro w0 hSw; go_simp); try (with_reducible rfl))
  try simp only [Act.put, List.setIfInBounds_toArray, List.set_cons_zero, List.set_cons_succ]
  refine wpAnyH_take (i := 7) (oi := ⟨some 10, Op.fieldAddr 47 (Operand.tmp 1) 0, _, _, _, _⟩) (v := ?v40) rfl (by kernel_rfl) (by kernel_rfl) (by kernel_rfl) (fun _ _ _ h => h) (Or.inl ⟨by rfl, ?hy40⟩) (by assumption) ?rest40
  case hy40 => ((intro w0 hSw; obtain ⟨⟨hs1, hs2⟩, hs3⟩ := hSw; go_simp); try (with_reducible rfl))
  try simp only [Act.put, List.setIfInBounds_toArray, List.set_cons_zero, List.set_cons_succ]
  refine wpAnyH_take (i := 8) (oi := ⟨some 11, Op.load 3 (Operand.tmp 10), _, _, _, _⟩) (v := ?v41) rfl (by kernel_rfl) (by kernel_rfl) (by kernel_rfl) (fun _ _ _ h => h) (Or.inl ⟨by rfl, ?hy41⟩) (by assumption) ?rest41
  case hy41 => ((intro w0 hSw; obtain ⟨⟨hs1, hs2⟩, hs3⟩ := hSw; go_simp); try (with_reducible rfl))
  try simp only [Act.put, List.setIfInBounds_toArray, List.set_cons_zero, List.set_cons_succ]
  refine wpAnyH_ready (rs := [9]) (by kernel_rfl) (by simp) ?_
  refine AllReadyH.cons (o := ⟨some 12, Op.call { callee := Callee.value (Operand.func 90), args := #[(Operand.tmp 11)], argTypes := #[3] }, _, _, _, _⟩) rfl (fun K hK => ?_) AllReadyH.nil
  go_simp
  (with_reducible refine (HI.out _).mono ?_); rintro e w6 ⟨rfl, rfl⟩
  go_wp2_with fail
  refine hK.out _ _ hHeld (fun hHeld => ?_)
  clear hK K
  try simp only [Act.put, List.setIfInBounds_toArray, List.set_cons_zero, List.set_cons_succ]
  refine wpAnyH_take (i := 10) (oi := ⟨some 13, Op.move (Operand.tmp 12), _, _, _, _⟩) (v := ?v42) rfl (by kernel_rfl) (by kernel_rfl) (by kernel_rfl) (fun _ _ _ h => h) (Or.inl ⟨by rfl, ?hy42⟩) (by assumption) ?rest42
  case hy42 => ((intro w0 hSw; go_simp); try (with_reducible rfl))
  try simp only [Act.put, List.setIfInBounds_toArray, List.set_cons_zero, List.set_cons_succ]
  refine wpAnyH_take (i := 11) (oi := ⟨some 14, Op.load 47 (Operand.tmp 1), _, _, _, _⟩) (v := ?v43) rfl (by kernel_rfl) (by kernel_rfl) (by kernel_rfl) (fun _ _ _ h => h) (Or.inl ⟨by rfl, ?hy43⟩) (by assumption) ?rest43
  case hy43 => ((intro w0 hSw; obtain ⟨⟨hs1, hs2⟩, hs3⟩ := hSw; go_simp); try (with_reducible rfl))
  try simp only [Act.put, List.setIfInBounds_toArray, List.set_cons_zero, List.set_cons_succ]
  refine wpAnyH_take (i := 12) (oi := ⟨some 15, Op.fieldAddr 47 (Operand.tmp 1) 0, _, _, _, _⟩) (v := ?v44) rfl (by kernel_rfl) (by kernel_rfl) (by kernel_rfl) (fun _ _ _ h => h) (Or.inl ⟨by rfl, ?hy44⟩) (by assumption) ?rest44
  case hy44 => ((intro w0 hSw; obtain ⟨⟨hs1, hs2⟩, hs3⟩ := hSw; go_simp); try (with_reducible rfl))
  try simp only [Act.put, List.setIfInBounds_toArray, List.set_cons_zero, List.set_cons_succ]
  refine wpAnyH_take (i := 13) (oi := ⟨some 16, Op.load 3 (Operand.tmp 15), _, _, _, _⟩) (v := ?v45) rfl (by kernel_rfl) (by kernel_rfl) (by kernel_rfl) (fun _ _ _ h => h) (Or.inl ⟨by rfl, ?hy45⟩) (by assumption) ?rest45
  case hy45 => ((intro w0 hSw; obtain ⟨⟨hs1, hs2⟩, hs3⟩ := hSw; go_simp); try (with_reducible rfl))
  try simp only [Act.put, List.setIfInBounds_toArray, List.set_cons_zero, List.set_cons_succ]
  refine wpAnyH_ready (rs := [14]) (by kernel_rfl) (by simp) ?_
  refine AllReadyH.cons (o := ⟨some 17, Op.call { callee := Callee.value (Operand.func 87), args := #[(Operand.tmp 16)], argTypes := #[3] }, _, _, _, _⟩) rfl (fun K hK => ?_) AllReadyH.nil
  go_simp
  (with_reducible refine (HO.out _).mono ?_); rintro e w5 ⟨rfl, hg5⟩
  go_wp2_with fail
  refine hK.out _ _ ⟨next2 hHeld.1 hg5, grown_trans hHeld.2 hg5⟩ (fun hHeld => ?_)
  clear hK K
  try simp only [Act.put, List.setIfInBounds_toArray, List.set_cons_zero, List.set_cons_succ]
  refine wpAnyH_take (i := 15) (oi := ⟨some 18, Op.binOp BinOp.eql 47 (Operand.tmp 14) (Operand.tmp 17) _, _, _, _, _⟩) (v := ?v46) rfl (by kernel_rfl) (by kernel_rfl) (by kernel_rfl) (fun _ _ _ h => h) (Or.inl ⟨by rfl, ?hy46⟩) (by assumption) ?rest46
  case hy46 => ((intro w0 hSw; obtain ⟨⟨hs1, hs2⟩, hs3⟩ := hSw; go_simp); try (with_reducible rfl))
  try simp only [Act.put, List.setIfInBounds_toArray, List.set_cons_zero, List.set_cons_succ]
  refine wpAnyH_take (i := 16) (oi := ⟨some 19, Op.pick (Operand.tmp 13) (Operand.tmp 18) (Operand.const (Value.bool false)), _, _, _, _⟩) (v := ?v47) rfl (by kernel_rfl) (by kernel_rfl) (by kernel_rfl) (fun _ _ _ h => h) (Or.inl ⟨by rfl, ?hy47⟩) (by assumption) ?rest47
  case hy47 => ((intro w0 hSw; go_simp); try (with_reducible rfl))
  try simp only [Act.put, List.setIfInBounds_toArray, List.set_cons_zero, List.set_cons_succ]
  refine wpAnyH_take (i := 17) (oi := ⟨some 20, Op.pick (Operand.tmp 9) (Operand.const (Value.bool true)) (Operand.tmp 19), _, _, _, _⟩) (v := ?v48) rfl (by kernel_rfl) (by kernel_rfl) (by kernel_rfl) (fun _ _ _ h => h) (Or.inl ⟨by rfl, ?hy48⟩) (by assumption) ?rest48
  case hy48 => ((intro w0 hSw; go_simp); try (with_reducible rfl))
  try simp only [Act.put, List.setIfInBounds_toArray, List.set_cons_zero, List.set_cons_succ]
  refine wpAnyH_done (by kernel_rfl) ?_ _
  cases b
  · go_wp2_with fail
    go_ret
    exact ⟨rfl, hHeld.2⟩
  · go_wp2_with fail
    go_ret
    exact ⟨rfl, hHeld.2⟩
theorem may_any (o : Int) (s : Nat) (w : World) (hs : s < 4294967296) : Calls Tryd.prog 89 #[.agg #[.int .i64 o, .int .u32 (s : Int)]] w fun e w' => e = .returned (.int .i64 (err (En.may ⟨o, s⟩))) ∧ w.grownBy w' none := by
  by_cases h2 : 0 ≤ o ∧ o ≤ 15
  · have e : En.may ⟨o, s⟩ = decide (s = 0) := by
      by_cases h : s = 0
      · rw [may_yes (by omega), decide_eq_true h]
      · rw [may_no (by omega), decide_eq_false h]
    rw [e]; exact may_c o s w hs h2
  · by_cases h1 : o = -1 ∧ s < 65536
    · obtain ⟨rfl, h1⟩ := h1
      rw [may_yes (by omega)]; exact may_a s w h1
    · rw [may_no (by omega)]; exact may_b o s w hs h1 h2
end Go.Proofs.YtenhdijbcdkfbaaDoor.en

namespace Go.Proofs.YtenhdijbcdkfbaaDoor.en
open Go Go.ChangeShapes Go.WideShapes Go.ChangeAt Go.RowKit
open Go.Proofs.YtenhdijbcdkfbaaDoor.mm (wi wo ha pop wi_lt wo_lt with_any ret_i64 ret_bool ret_u32)
set_option linter.unusedVariables false

theorem known_any (o : Int) (s : Nat) (w : World) (hs : s < 4294967296) : Calls Tryd.prog 88 #[.agg #[.int .i64 o, .int .u32 (s : Int)]] w fun e w' => e = .returned (.int .u32 (wi s o : Nat)) ∧ w.grownBy w' none := by
  have HW := Lib.hid (with_any s o (w.alloc (.cells #[.int .i64 o, .int .u32 (s : Int)] 47)) hs)
  go_enter Tryd.func88, Tryd.ntmps88
  go_wp2_with (go_at_call 78; ((with_reducible refine HW.out.mono ?_); rintro e w' ⟨rfl, rfl⟩))
  go_ret
  exact ⟨rfl, grown_alloc (grown_refl _ _) _⟩
theorem free_any (w : World) : Calls Tryd.prog 34 #[] w fun e w' => e = .returned (.agg #[.int .i64 (-1), .int .u32 0]) ∧ w.grownBy w' none := by
  have HS : Hid (∀ w, _) := Lib.hid fun w => shared_any 0 w
  have HB : Hid ((w.alloc (.cells #[.int .i64 0, .int .u32 0] 47)).heap[w.heap.size]? = some (.cells #[.int .i64 0, .int .u32 0] 47 (0, 0))) := Lib.hid (heap_alloc_new _ _)
  have HG0 : Hid (w.grownBy (w.alloc (.cells #[.int .i64 0, .int .u32 0] 47)) none) := Lib.hid (grown_alloc (grown_refl _ _) _)
  go_enter Tryd.func34, Tryd.ntmps34
  go_wp2_with (first
    | (go_at_call 54; ((with_reducible refine (HS.out _).mono ?_); rintro e w5 ⟨rfl, hg5⟩; have HB5 := Lib.hid (row_grown HB.out hg5); have HG5 := Lib.hid hg5; clear hg5))
    | ((with_reducible refine store_en (-1) 0 _ _ _ _ w.heap.size ?_ ?_ HB5.out ?_ ?_); (rfl); (rfl); (rfl)))
  refine ret1 rfl (by rfl) (setRow_heap _ _ _ _ _ _ HB5.out) ?_
  exact ⟨rfl, grown_setRow (grown_trans HG0.out HG5.out) _ (Nat.le_refl _) _⟩

set_option maxHeartbeats 1000000 in
theorem mayAsk_any (o : Int) (s : Nat) (k x : Int) (w : World) (hs : s < 4294967296) : Calls Tryd.prog 76 #[.agg #[.int .i64 o, .int .u32 (s : Int)], .int .u8 k, .int .i64 x] w fun e w' => e = .returned (.bool (ask ⟨o, s⟩ k x)) ∧ w.grownBy w' none := by
  have HG0 : Hid (w.grownBy (w.alloc (.cells #[.int .i64 o, .int .u32 (s : Int)] 47)) none) := Lib.hid (grown_alloc (grown_refl _ _) _)
  have HM : Hid (∀ w, _) := Lib.hid fun w => may_any o s w hs
  have HI : Hid (∀ w, _) := Lib.hid fun w => core_any x w
  unfold ask
  cases hm : En.may ⟨o, s⟩
  · rw [hm] at HM
    unfold err at HM
    clear hm hs HI
    go_enter Tryd.func76, Tryd.ntmps76
    go_wp2_with (go_at_call 89; ((with_reducible refine (HM.out _).mono ?_); rintro e w5 ⟨rfl, hg5⟩; have HG5 := Lib.hid hg5; clear hg5))
    go_ret
    exact ⟨rfl, grown_trans HG0.out HG5.out⟩
  · rw [hm] at HM
    unfold err at HM
    cases hx : decide (0 ≤ x ∧ x ≤ 15)
    · rw [hx] at HI
      clear hm hs hx
      go_enter Tryd.func76, Tryd.ntmps76
      go_wp2_with (first
        | (go_at_call 89; ((with_reducible refine (HM.out _).mono ?_); rintro e w5 ⟨rfl, hg5⟩; have HG5 := Lib.hid hg5; clear hg5))
        | (go_at_call 90; ((with_reducible refine (HI.out _).mono ?_); rintro e w6 ⟨rfl, rfl⟩)))
      go_ret
      exact ⟨rfl, grown_trans HG0.out HG5.out⟩
    · rw [hx] at HI
      clear hm hs hx
      by_cases h1 : k = 1
      · subst h1
        go_enter Tryd.func76, Tryd.ntmps76
        go_wp2_with (first
          | (go_at_call 89; ((with_reducible refine (HM.out _).mono ?_); rintro e w5 ⟨rfl, hg5⟩; have HG5 := Lib.hid hg5; clear hg5))
          | (go_at_call 90; ((with_reducible refine (HI.out _).mono ?_); rintro e w6 ⟨rfl, rfl⟩)))
        go_ret
        exact ⟨rfl, grown_trans HG0.out HG5.out⟩
      · have e1 : (k == 1) = false := by simpa using h1
        by_cases h2 : k = 2
        · subst h2
          clear h1 e1
          go_enter Tryd.func76, Tryd.ntmps76
          go_wp2_with (first
            | (go_at_call 89; ((with_reducible refine (HM.out _).mono ?_); rintro e w5 ⟨rfl, hg5⟩; have HG5 := Lib.hid hg5; clear hg5))
            | (go_at_call 90; ((with_reducible refine (HI.out _).mono ?_); rintro e w6 ⟨rfl, rfl⟩)))
          go_ret
          exact ⟨rfl, grown_trans HG0.out HG5.out⟩
        · have e2 : (k == 2) = false := by simpa using h2
          rw [decide_eq_false (p := k = 1 ∨ k = 2) (by omega)]
          clear h1 h2
          go_enter Tryd.func76, Tryd.ntmps76
          go_wp2_with (first
            | (go_at_call 89; ((with_reducible refine (HM.out _).mono ?_); rintro e w5 ⟨rfl, hg5⟩; have HG5 := Lib.hid hg5; clear hg5))
            | (go_at_call 90; ((with_reducible refine (HI.out _).mono ?_); rintro e w6 ⟨rfl, rfl⟩)))
          go_ret
          exact ⟨rfl, grown_trans HG0.out HG5.out⟩
end Go.Proofs.YtenhdijbcdkfbaaDoor.en

namespace Go.Proofs.YtenhdijbcdkfbaaDoor.en
open Go Go.ChangeShapes Go.WideShapes Go.ChangeAt Go.RowKit
open Go.Proofs.YtenhdijbcdkfbaaDoor.mm (wi wo ha pop wi_lt wo_lt ret_i64 ret_bool ret_u32)
set_option linter.unusedVariables false


end Go.Proofs.YtenhdijbcdkfbaaDoor.en

namespace Go.Proofs.YtenhdijbcdkfbaaDoor.en
open Go Go.ChangeShapes Go.WideShapes Go.ChangeAt Go.RowKit
open Go.Proofs.YtenhdijbcdkfbaaDoor.mm (wi wo ha pop wi_lt wo_lt with_any count_any)
set_option linter.unusedVariables false

/-- What an ask of x makes of an entry, and what x gets. -/
def gets (e : En) (k x : Int) : En × Int × Int :=
  if ask e k x then (if k = 2 then (⟨x, 0⟩, 3, 0) else if pop (wi (wi e.s e.o) x) 32 = 1 then (⟨x, 0⟩, 2, 0) else (⟨-1, wi (wi e.s e.o) x⟩, 1, 0)) else (⟨0, 0⟩, 0, 2)
def got (r : En × Int × Int) : Ending := .returned (.tuple #[.agg #[.int .i64 r.1.o, .int .u32 (r.1.s : Int)], .int .u8 r.2.1, .int .i64 r.2.2])
/-- What is made of an entry by a block that x sends back; whether it is taken. -/
def back (e : En) (x : Int) (st : Bool) : En × Bool × Int :=
  if e.may && decide (0 ≤ x ∧ x ≤ 15) then (if e.o = x then (if st then e else free, true, 0) else (e, false, 0)) else (⟨0, 0⟩, false, 2)
def gone (r : En × Bool × Int) : Ending := .returned (.tuple #[.agg #[.int .i64 r.1.o, .int .u32 (r.1.s : Int)], .bool r.2.1, .int .i64 r.2.2])

theorem put2_old (w : World) (a b c d : Value) (t : TypeId) : ((w.alloc (.cells #[a, b] t)).alloc (.cells #[c, d] t)).heap[w.heap.size]? = some (.cells #[a, b] t (0, 0)) :=
  (Below.heap_alloc _ _ _ (by simp)).trans (heap_alloc_new _ _)
theorem put2_new (w : World) (a b c d : Value) (t : TypeId) : ((w.alloc (.cells #[a, b] t)).alloc (.cells #[c, d] t)).heap[w.heap.size + 1]? = some (.cells #[c, d] t (0, 0)) := by
  have := heap_alloc_new (w.alloc (.cells #[a, b] t)) (.cells #[c, d] t)
  rwa [World.size_alloc] at this

set_option maxRecDepth 1000000 in
set_option maxHeartbeats 1000000 in
theorem gets_any (o : Int) (s : Nat) (k x : Int) (w : World) (hs : s < 4294967296) : Calls Tryd.prog 71 #[.agg #[.int .i64 o, .int .u32 (s : Int)], .int .u8 k, .int .i64 x] w fun e w' => e = got (gets ⟨o, s⟩ k x) ∧ w.grownBy w' none := by
  have HA := Lib.hid (put2_old w (.int .i64 o) (.int .u32 (s : Int)) (.int .i64 0) (.int .u32 0) 47)
  have HB := Lib.hid (put2_new w (.int .i64 o) (.int .u32 (s : Int)) (.int .i64 0) (.int .u32 0) 47)
  have HG0 : Hid (w.grownBy ((w.alloc (.cells #[.int .i64 o, .int .u32 (s : Int)] 47)).alloc (.cells #[.int .i64 0, .int .u32 0] 47)) none) := Lib.hid (grown_alloc (grown_alloc (grown_refl _ _) _) _)
  have HM : Hid (∀ w, _) := Lib.hid fun w => mayAsk_any o s k x w hs
  have HK : Hid (∀ w, _) := Lib.hid fun w => known_any o s w hs
  have HO : Hid (∀ w, _) := Lib.hid fun w => owned_any x w
  have hml := wi_lt s o hs
  have HW : Hid (∀ w, _) := Lib.hid fun w => with_any (wi s o) x w hml
  have hpl := wi_lt (wi s o) x hml
  have HC : Hid (∀ w, _) := Lib.hid fun w => count_any (wi (wi s o) x) w hpl
  have HS : Hid (∀ w, _) := Lib.hid fun w => shared_any (wi (wi s o) x : Nat) w
  unfold gets
  generalize wi (wi s o) x = p at HW HC HS ⊢
  generalize wi s o = m at HW HK
  cases hask : ask ⟨o, s⟩ k x
  · rw [hask] at HM
    rw [if_neg (by simp)]
    clear hask hml hpl hs
    go_enter Tryd.func71, Tryd.ntmps71
    go_wp2_with (first
      | ((with_reducible refine load_en _ _ _ _ _ w.heap.size ?_ HA.out ?_); (rfl))
      | (go_at_call 76; ((with_reducible refine (HM.out _).mono ?_); rintro e w5 ⟨rfl, hg5⟩; have HB5 := Lib.hid (row_grown HB.out hg5); have HG5 := Lib.hid (grown_trans HG0.out hg5); clear hg5))
      | ((with_reducible refine store_en 0 0 _ _ _ _ (w.heap.size + 1) ?_ ?_ HB5.out ?_ ?_); (rfl); (rfl); (rfl)))
    refine ret3 rfl (by rfl) rfl rfl (setRow_heap _ _ _ _ _ _ HB5.out) ?_
    exact ⟨rfl, grown_setRow HG5.out _ (by omega) _⟩
  · rw [hask] at HM
    rw [if_pos rfl]
    clear hask hml hpl hs
    by_cases hk : k = 2
    · subst hk
      rw [if_pos rfl]
      go_enter Tryd.func71, Tryd.ntmps71
      go_wp2_with (first
        | ((with_reducible refine load_en _ _ _ _ _ w.heap.size ?_ HA.out ?_); (rfl))
        | (go_at_call 76; ((with_reducible refine (HM.out _).mono ?_); rintro e w5 ⟨rfl, hg5⟩; have HB5 := Lib.hid (row_grown HB.out hg5); have HG5 := Lib.hid (grown_trans HG0.out hg5); clear hg5))
        | (go_at_call 87; ((with_reducible refine (HO.out _).mono ?_); rintro e w6 ⟨rfl, hg6⟩; have HB6 := Lib.hid (row_grown HB5.out hg6); have HG6 := Lib.hid (grown_trans HG5.out hg6); clear hg6))
        | ((with_reducible refine store_en x 0 _ _ _ _ (w.heap.size + 1) ?_ ?_ HB6.out ?_ ?_); (rfl); (rfl); (rfl)))
      refine ret3 rfl (by rfl) rfl rfl (setRow_heap _ _ _ _ _ _ HB6.out) ?_
      exact ⟨rfl, grown_setRow HG6.out _ (by omega) _⟩
    · rw [if_neg hk]
      have hk2 : (k == 2) = false := by simpa using hk
      clear hk
      by_cases hp : pop p 32 = 1
      · rw [if_pos hp]
        rw [hp] at HC
        clear hp
        go_enter Tryd.func71, Tryd.ntmps71
        go_wp2_with (first
          | ((with_reducible refine load_en _ _ _ _ _ w.heap.size ?_ HA.out ?_); (rfl))
          | (go_at_call 76; ((with_reducible refine (HM.out _).mono ?_); rintro e w5 ⟨rfl, hg5⟩; have HA5 := Lib.hid (row_grown HA.out hg5); have HB5 := Lib.hid (row_grown HB.out hg5); have HG5 := Lib.hid (grown_trans HG0.out hg5); clear hg5))
          | ((with_reducible refine load_en _ _ _ _ _ w.heap.size ?_ HA5.out ?_); (rfl))
          | (go_at_call 88; ((with_reducible refine (HK.out _).mono ?_); rintro e w6 ⟨rfl, hg6⟩; have HB6 := Lib.hid (row_grown HB5.out hg6); have HG6 := Lib.hid (grown_trans HG5.out hg6); clear hg6))
          | (go_at_call 78; ((with_reducible refine (HW.out _).mono ?_); rintro e w7 ⟨rfl, rfl⟩))
          | (go_at_call 27; ((with_reducible refine (HC.out _).mono ?_); rintro e w8 ⟨rfl, n8, hw8⟩; have HB8 := Lib.hid (row_grown HB6.out (hw8 ▸ grown_drewN (grown_refl _ _) n8)); have HG8 := Lib.hid (hw8 ▸ grown_drewN HG6.out n8); clear hw8))
          | (go_at_call 87; ((with_reducible refine (HO.out _).mono ?_); rintro e w9 ⟨rfl, hg9⟩; have HB9 := Lib.hid (row_grown HB8.out hg9); have HG9 := Lib.hid (grown_trans HG8.out hg9); clear hg9))
          | ((with_reducible refine store_en x 0 _ _ _ _ (w.heap.size + 1) ?_ ?_ HB9.out ?_ ?_); (rfl); (rfl); (rfl)))
        refine ret3 rfl (by rfl) rfl rfl (setRow_heap _ _ _ _ _ _ HB9.out) ?_
        exact ⟨rfl, grown_setRow HG9.out _ (by omega) _⟩
      · rw [if_neg hp]
        have hp2 : (((pop p 32 : Nat) : Int) == 1) = false := by simp; omega
        clear hp
        go_enter Tryd.func71, Tryd.ntmps71
        go_wp2_with (first
          | ((with_reducible refine load_en _ _ _ _ _ w.heap.size ?_ HA.out ?_); (rfl))
          | (go_at_call 76; ((with_reducible refine (HM.out _).mono ?_); rintro e w5 ⟨rfl, hg5⟩; have HA5 := Lib.hid (row_grown HA.out hg5); have HB5 := Lib.hid (row_grown HB.out hg5); have HG5 := Lib.hid (grown_trans HG0.out hg5); clear hg5))
          | ((with_reducible refine load_en _ _ _ _ _ w.heap.size ?_ HA5.out ?_); (rfl))
          | (go_at_call 88; ((with_reducible refine (HK.out _).mono ?_); rintro e w6 ⟨rfl, hg6⟩; have HB6 := Lib.hid (row_grown HB5.out hg6); have HG6 := Lib.hid (grown_trans HG5.out hg6); clear hg6))
          | (go_at_call 78; ((with_reducible refine (HW.out _).mono ?_); rintro e w7 ⟨rfl, rfl⟩))
          | (go_at_call 27; ((with_reducible refine (HC.out _).mono ?_); rintro e w8 ⟨rfl, n8, hw8⟩; have HB8 := Lib.hid (row_grown HB6.out (hw8 ▸ grown_drewN (grown_refl _ _) n8)); have HG8 := Lib.hid (hw8 ▸ grown_drewN HG6.out n8); clear hw8))
          | (go_at_call 54; ((with_reducible refine (HS.out _).mono ?_); rintro e w9 ⟨rfl, hg9⟩; have HB9 := Lib.hid (row_grown HB8.out hg9); have HG9 := Lib.hid (grown_trans HG8.out hg9); clear hg9))
          | ((with_reducible refine store_en (-1) (p : Int) _ _ _ _ (w.heap.size + 1) ?_ ?_ HB9.out ?_ ?_); (rfl); (rfl); (rfl)))
        refine ret3 rfl (by rfl) rfl rfl (setRow_heap _ _ _ _ _ _ HB9.out) ?_
        exact ⟨rfl, grown_setRow HG9.out _ (by omega) _⟩
end Go.Proofs.YtenhdijbcdkfbaaDoor.en

namespace Go.Proofs.YtenhdijbcdkfbaaDoor.en
open Go Go.ChangeShapes Go.WideShapes Go.ChangeAt Go.RowKit
open Go.Proofs.YtenhdijbcdkfbaaDoor.mm (wi wo ha pop wi_lt wo_lt with_any count_any)
set_option linter.unusedVariables false

theorem cells2 {w : World} {g : Nat} {a b : Value} {t : TypeId} {fr : Nat × Nat} (h : w.heap[g]? = some (.cells #[a, b] t fr)) : w.cell? ⟨g, 0, none⟩ = some a ∧ w.cell? ⟨g, 1, none⟩ = some b :=
  ⟨cell_of_row _ _ 0 _ _ _ h, cell_of_row _ _ 1 _ _ _ h⟩

set_option maxRecDepth 1000000 in
set_option maxHeartbeats 1000000 in
theorem back_bad (o : Int) (s : Nat) (x : Int) (st : Bool) (w : World) (hs : s < 4294967296) (h : (En.may ⟨o, s⟩ && decide (0 ≤ x ∧ x ≤ 15)) = false) : Calls Tryd.prog 75 #[.agg #[.int .i64 o, .int .u32 (s : Int)], .int .i64 x, .bool st] w fun e w' => e = gone (⟨0, 0⟩, false, 2) ∧ w.grownBy w' none := by
  have HA := Lib.hid (put2_old w (.int .i64 o) (.int .u32 (s : Int)) (.int .i64 0) (.int .u32 0) 47)
  have HB := Lib.hid (put2_new w (.int .i64 o) (.int .u32 (s : Int)) (.int .i64 0) (.int .u32 0) 47)
  have HG0 : Hid (w.grownBy ((w.alloc (.cells #[.int .i64 o, .int .u32 (s : Int)] 47)).alloc (.cells #[.int .i64 0, .int .u32 0] 47)) none) := Lib.hid (grown_alloc (grown_alloc (grown_refl _ _) _) _)
  have HM : Hid (∀ w, _) := Lib.hid fun w => may_any o s w hs
  have HI : Hid (∀ w, _) := Lib.hid fun w => core_any x w
  cases hm : En.may ⟨o, s⟩
  · rw [hm] at HM
    unfold err at HM
    clear hm h hs HI
    go_enter Tryd.func75, Tryd.ntmps75
    go_wp2_with (first
      | ((with_reducible refine load_en _ _ _ _ _ w.heap.size ?_ HA.out ?_); (rfl))
      | (go_at_call 89; ((with_reducible refine (HM.out _).mono ?_); rintro e w5 ⟨rfl, hg5⟩; have HB5 := Lib.hid (row_grown HB.out hg5); have HG5 := Lib.hid (grown_trans HG0.out hg5); clear hg5))
      | ((with_reducible refine store_en 0 0 _ _ _ _ (w.heap.size + 1) ?_ ?_ HB5.out ?_ ?_); (rfl); (rfl); (rfl)))
    refine ret3 rfl (by rfl) rfl rfl (setRow_heap _ _ _ _ _ _ HB5.out) ?_
    exact ⟨rfl, grown_setRow HG5.out _ (by omega) _⟩
  · rw [hm] at HM h
    rw [Bool.true_and] at h
    rw [h] at HI
    unfold err at HM
    clear hm h hs
    go_enter Tryd.func75, Tryd.ntmps75
    go_wp2_with (first
      | ((with_reducible refine load_en _ _ _ _ _ w.heap.size ?_ HA.out ?_); (rfl))
      | (go_at_call 89; ((with_reducible refine (HM.out _).mono ?_); rintro e w5 ⟨rfl, hg5⟩; have HB5 := Lib.hid (row_grown HB.out hg5); have HG5 := Lib.hid (grown_trans HG0.out hg5); clear hg5))
      | (go_at_call 90; ((with_reducible refine (HI.out _).mono ?_); rintro e w6 ⟨rfl, rfl⟩))
      | ((with_reducible refine store_en 0 0 _ _ _ _ (w.heap.size + 1) ?_ ?_ HB5.out ?_ ?_); (rfl); (rfl); (rfl)))
    refine ret3 rfl (by rfl) rfl rfl (setRow_heap _ _ _ _ _ _ HB5.out) ?_
    exact ⟨rfl, grown_setRow HG5.out _ (by omega) _⟩

set_option maxRecDepth 1000000 in
set_option maxHeartbeats 1000000 in
theorem back_ok (o : Int) (s : Nat) (x : Int) (st : Bool) (w : World) (hs : s < 4294967296) (h1 : En.may ⟨o, s⟩ = true) (h2 : decide (0 ≤ x ∧ x ≤ 15) = true) (t : Bool) (ht : decide (o = x ∧ s = 0) = t) :
    Calls Tryd.prog 75 #[.agg #[.int .i64 o, .int .u32 (s : Int)], .int .i64 x, .bool st] w fun e w' => e = gone ((if t && !st then free else ⟨o, s⟩), t, 0) ∧ w.grownBy w' none := by
  have HA := Lib.hid (put2_old w (.int .i64 o) (.int .u32 (s : Int)) (.int .i64 0) (.int .u32 0) 47)
  have HB := Lib.hid (put2_new w (.int .i64 o) (.int .u32 (s : Int)) (.int .i64 0) (.int .u32 0) 47)
  have HG0 : Hid (w.grownBy ((w.alloc (.cells #[.int .i64 o, .int .u32 (s : Int)] 47)).alloc (.cells #[.int .i64 0, .int .u32 0] 47)) none) := Lib.hid (grown_alloc (grown_alloc (grown_refl _ _) _) _)
  have HM : Hid (∀ w, _) := Lib.hid fun w => may_any o s w hs
  have HI : Hid (∀ w, _) := Lib.hid fun w => core_any x w
  have HO : Hid (∀ w, _) := Lib.hid fun w => owned_any x w
  have HF : Hid (∀ w, _) := Lib.hid fun w => free_any w
  have he2 : ∀ w, (binOp .eql 47 (.agg #[.int .i64 o, .int .u32 (s : Int)]) (.agg #[.int .i64 x, .int .u32 0])).run Tryd.prog w = .ok (.bool t) w := fun w => by
    rw [eqE, ← ht]; simp
  rw [h1] at HM
  rw [h2] at HI
  unfold err at HM
  clear h1 h2 hs ht
  go_enter Tryd.func75, Tryd.ntmps75
  go_wp2_with (first
    | ((with_reducible refine load_en _ _ _ _ _ w.heap.size ?_ HA.out ?_); (rfl))
    | (go_at_call 89; ((with_reducible refine (HM.out _).mono ?_); rintro e w5 ⟨rfl, hg5⟩; have HA5 := Lib.hid (row_grown HA.out hg5); have HB5 := Lib.hid (row_grown HB.out hg5); have HG5 := Lib.hid (grown_trans HG0.out hg5); clear hg5))
    | (go_at_call 90; ((with_reducible refine (HI.out _).mono ?_); rintro e w6 ⟨rfl, rfl⟩)))
  go_region_held3 (fun w' => w'.cell? ⟨w.heap.size, 0, none⟩ = some (.int .i64 o) ∧ w'.cell? ⟨w.heap.size, 1, none⟩ = some (.int .u32 (s : Int)))
    (first | exact cells2 (row_grown HA5.out (grown_drew (grown_refl _ _))) | exact next2 (by assumption) (by assumption))
    (first | (go_at_call 87; ((with_reducible refine (HO.out _).mono ?_); rintro e w7 ⟨rfl, hg7⟩)))
  have HG7 := Lib.hid (grown_trans (grown_drew HG5.out) hg7)
  have HA7 := Lib.hid (row_grown HA5.out (grown_trans (grown_drew (grown_refl _ _)) hg7))
  have HB7 := Lib.hid (row_grown HB5.out (grown_trans (grown_drew (grown_refl _ _)) hg7))
  clear hg7 he2
  cases t
  · go_wp2_with (first
      | ((with_reducible refine load_en _ _ _ _ _ w.heap.size ?_ HA7.out ?_); (rfl))
      | ((with_reducible refine store_en o (s : Int) _ _ _ _ (w.heap.size + 1) ?_ ?_ HB7.out ?_ ?_); (rfl); (rfl); (rfl)))
    refine ret3 rfl (by rfl) rfl rfl (setRow_heap _ _ _ _ _ _ HB7.out) ?_
    exact ⟨rfl, grown_setRow HG7.out _ (by omega) _⟩
  · cases st
    · go_wp2_with (first
        | (go_at_call 34; ((with_reducible refine (HF.out _).mono ?_); rintro e w8 ⟨rfl, hg8⟩; have HB8 := Lib.hid (row_grown HB7.out hg8); have HG8 := Lib.hid (grown_trans HG7.out hg8); clear hg8))
        | ((with_reducible refine store_en (-1) 0 _ _ _ _ (w.heap.size + 1) ?_ ?_ HB8.out ?_ ?_); (rfl); (rfl); (rfl)))
      refine ret3 rfl (by rfl) rfl rfl (setRow_heap _ _ _ _ _ _ HB8.out) ?_
      exact ⟨rfl, grown_setRow HG8.out _ (by omega) _⟩
    · go_wp2_with (first
        | ((with_reducible refine load_en _ _ _ _ _ w.heap.size ?_ HA7.out ?_); (rfl))
        | ((with_reducible refine store_en o (s : Int) _ _ _ _ (w.heap.size + 1) ?_ ?_ HB7.out ?_ ?_); (rfl); (rfl); (rfl)))
      refine ret3 rfl (by rfl) rfl rfl (setRow_heap _ _ _ _ _ _ HB7.out) ?_
      exact ⟨rfl, grown_setRow HG7.out _ (by omega) _⟩
theorem back_any (o : Int) (s : Nat) (x : Int) (st : Bool) (w : World) (hs : s < 4294967296) : Calls Tryd.prog 75 #[.agg #[.int .i64 o, .int .u32 (s : Int)], .int .i64 x, .bool st] w fun e w' => e = gone (back ⟨o, s⟩ x st) ∧ w.grownBy w' none := by
  unfold back
  cases h : En.may ⟨o, s⟩ && decide (0 ≤ x ∧ x ≤ 15)
  · rw [if_neg (by simp)]; exact back_bad o s x st w hs h
  · rw [if_pos rfl]
    rw [Bool.and_eq_true] at h
    have hm := of_decide_eq_true h.1
    have hx := of_decide_eq_true h.2
    by_cases ho : o = x
    · have := back_ok o s x st w hs h.1 h.2 true (decide_eq_true ⟨ho, hm.2.2.2 (by show o ≠ -1; omega)⟩)
      rw [if_pos (show (⟨o, s⟩ : En).o = x from ho)]
      cases st <;> exact this
    · have := back_ok o s x st w hs h.1 h.2 false (decide_eq_false (fun e => ho e.1))
      rw [if_neg (show ¬ (⟨o, s⟩ : En).o = x from ho)]
      exact this
end Go.Proofs.YtenhdijbcdkfbaaDoor.en

namespace Go.Proofs.YtenhdijbcdkfbaaDoor.en
open Go Go.ChangeShapes Go.WideShapes Go.ChangeAt Go.RowKit
open Go.Proofs.YtenhdijbcdkfbaaDoor.mm (wi wo ha pop wi_lt wo_lt with_any count_any)
set_option linter.unusedVariables false


end Go.Proofs.YtenhdijbcdkfbaaDoor.en
