/-
  What Write answers, and what the cache is behind it: contracts. Condition: the table of bounds lies in its variable as the program's text has it; the bounds that each theorem names.
-/
import Derived.Test.YtjbapfjeildfoaaDoorC5
namespace Go.Proofs.YtjbapfjeildfoaaDoor.kk
open Go Go.ChangeShapes Go.WideShapes Go.ChangeAt Go.RowKit Go.Shelf
set_option linter.unusedVariables false

/-- A line of which one word is another, and which is its core's own. -/
def Ln.word (l : Ln) (k : Nat) (x : Int) : Ln := ⟨l.b, l.s, l.d.set k x, by rw [List.length_set]; exact l.h⟩
theorem ln_word (l : Ln) (k : Nat) (x : Int) : ln (l.word k x) = (ln l).set (2 + k) (U x) := by
  rw [Nat.add_comm 2 k]
  simp [ln, Ln.word]
theorem set_set_row {α : Type} (ls : List α) (i : Nat) (x y : α) : (ls.set i x).set i y = ls.set i y := by simp

section
variable (K : Loc) (c : Cfg) (ss : List St) (b : Int) (p : St) (w : World) (hC : Cac w K c ss) (hT : Tab w) (hp : ss[setOf c b]? = some p)
include hC hT hp
theorem write_none (k x : Int) (hn : p.1.findIdx? (isOf b) = none) : Calls Tryd.prog 16 #[.pointer (some ⟨K.b, 0, none⟩), .int .i64 b, .int .i64 k, .int .u32 x] w fun e w' => e = .returned (.int .i64 4) ∧ w.grownBy w' none := by
  have HN := Lib.hid (where_any K c ss b p w hC hT hp)
  rw [way_none hn] at HN
  clear hC hT hp hn
  go_enter Tryd.func16, Tryd.ntmps16
  go_wp2_with (go_at_call 31; ((with_reducible refine HN.out.mono ?_); rintro e w1 ⟨rfl, hg1⟩; have HG1 := Lib.hid hg1; clear hg1))
  go_ret
  exact ⟨rfl, HG1.out⟩
theorem write_range (k x : Int) (i : Nat) (hn : p.1.findIdx? (isOf b) = some i) (hk : ¬ (0 ≤ k ∧ k < 16)) : Calls Tryd.prog 16 #[.pointer (some ⟨K.b, 0, none⟩), .int .i64 b, .int .i64 k, .int .u32 x] w fun e w' => e = .returned (.int .i64 5) ∧ w.grownBy w' none := by
  have HN := Lib.hid (where_any K c ss b p w hC hT hp)
  rw [way_some hn] at HN
  clear hC hT hp hn
  by_cases h0 : k < 0
  · have d1 : decide (k < 0) = true := by simp; omega
    clear hk h0
    go_enter Tryd.func16, Tryd.ntmps16
    go_wp2_with (go_at_call 31; ((with_reducible refine HN.out.mono ?_); rintro e w1 ⟨rfl, hg1⟩; have HG1 := Lib.hid hg1; clear hg1))
    go_ret
    exact ⟨rfl, HG1.out⟩
  · have d1 : decide (k < 0) = false := by simp; omega
    have d2 : decide (16 ≤ k) = true := by simp; omega
    clear hk h0
    go_enter Tryd.func16, Tryd.ntmps16
    go_wp2_with (go_at_call 31; ((with_reducible refine HN.out.mono ?_); rintro e w1 ⟨rfl, hg1⟩; have HG1 := Lib.hid hg1; clear hg1))
    go_ret
    exact ⟨rfl, HG1.out⟩
theorem write_shared (k : Nat) (x : Int) (i : Nat) (l : Ln) (hn : p.1.findIdx? (isOf b) = some i) (hl : p.1[i]? = some l) (hk : k < 16) (hs : l.s = 1) : Calls Tryd.prog 16 #[.pointer (some ⟨K.b, 0, none⟩), .int .i64 b, .int .i64 (k : Int), .int .u32 x] w fun e w' => e = .returned (.int .i64 8) ∧ w.grownBy w' none := by
  have HN := Lib.hid (where_any K c ss b p w hC hT hp)
  rw [way_some hn] at HN
  obtain ⟨q, hq, hS⟩ := hC.seen hp
  have hi := idx_lt hn
  have HB : Hid (∀ w1, w.grownBy w1 none → (w1.cell? ⟨K.gs, setOf c b * 2, none⟩ = some (.slice (some ⟨q.1, 0, none⟩) p.1.length q.2) ∧ w1.cell? ⟨q.1, i * 18 + 1, none⟩ = some (.int .u8 1))) := Lib.hid fun w1 hg =>
    have hr := hS.row.grown hg (by simp)
    ⟨hg.cell hS.sl (by simp), (hr.at_ i l hl 1 _ (ln1 l)).trans (by rw [hs])⟩
  generalize p.1.length = n at *
  generalize setOf c b = s0 at *
  clear hC hT hp hn hS hq hs hl
  go_enter Tryd.func16, Tryd.ntmps16
  go_wp2_with (go_at_call 31; ((with_reducible refine HN.out.mono ?_); rintro e w1 ⟨rfl, hg1⟩; have HG1 := Lib.hid hg1; obtain ⟨c1, c2⟩ := HB.out _ hg1; clear hg1))
  go_ret
  exact ⟨rfl, HG1.out⟩

theorem write_ok (k : Nat) (x : Int) (i : Nat) (l : Ln) (hn : p.1.findIdx? (isOf b) = some i) (hl : p.1[i]? = some l) (hk : k < 16) (hs : l.s ≠ 1) :
    Calls Tryd.prog 16 #[.pointer (some ⟨K.b, 0, none⟩), .int .i64 b, .int .i64 (k : Int), .int .u32 x] w fun e w' => e = .returned (.int .i64 0) ∧ Cac w' K c (ss.set (setOf c b) (p.1.set i ((l.word k x).state 3), us p.2 p.1.length i)) ∧ Kept K.own w w' := by
  have HN := Lib.hid (where_any K c ss b p w hC hT hp)
  rw [way_some hn] at HN
  obtain ⟨q, hq, hS⟩ := hC.seen hp
  have hi := idx_lt hn
  have hsl : setOf c b < ss.length := (List.getElem?_eq_some_iff.1 hp).1
  have HB : Hid (∀ w1, w.grownBy w1 none → (w1.cell? ⟨K.gs, setOf c b * 2, none⟩ = some (.slice (some ⟨q.1, 0, none⟩) p.1.length q.2) ∧ w1.cell? ⟨q.1, i * 18 + 1, none⟩ = some (.int .u8 l.s) ∧ w1.frozen? ⟨q.1, i * 18 + 1, none⟩ = false ∧ (∃ u, w1.cell? ⟨q.1, i * 18 + 2 + k, none⟩ = some u) ∧ w1.frozen? ⟨q.1, i * 18 + 2 + k, none⟩ = false) ∧ (w1.setCell ⟨q.1, i * 18 + 2 + k, none⟩ (U x)).cell? ⟨q.1, i * 18 + 1, none⟩ = some (.int .u8 l.s) ∧
      Calls Tryd.prog 33 #[.pointer (some ⟨K.gs, setOf c b * 2, none⟩), .int .i64 (i : Int)] ((w1.setCell ⟨q.1, i * 18 + 2 + k, none⟩ (U x)).setCell ⟨q.1, i * 18 + 1, none⟩ (.int .u8 3)) fun e w' => (∃ v, e = .returned v) ∧ Cac w' K c (ss.set (setOf c b) (p.1.set i ((l.word k x).state 3), us p.2 p.1.length i)) ∧ Kept K.own w w') := Lib.hid fun w1 hg => by
    have hr := hS.row.grown hg (by simp)
    have ha := hr.at_ i l hl
    have ht := hr.there hi
    have hr1 := hr.cell i hi l (l.word k x) hl (2 + k) (by omega) (U x) (ln_word l k x)
    have hl1 : (p.1.set i (l.word k x))[i]? = some (l.word k x) := List.getElem?_set_self hi
    have hr2 := hr1.cell i (by simpa using hi) (l.word k x) ((l.word k x).state 3) hl1 1 (by omega) (.int .u8 3) rfl
    rw [set_set_row] at hr2
    have hC1 := (hC.grown hg).setRow hp hq (grown_setCell _ _ (i * 18 + (2 + k)) (U x)) (by simp) hr1
    have hC2 := hC1.setRow (List.getElem?_set_self hsl) hq (grown_setCell _ _ (i * 18 + 1) (.int .u8 3)) (by simp) hr2
    rw [set_set_row] at hC2
    have hu := use_any K c _ (setOf c b) (p.1.set i ((l.word k x).state 3), p.2) i _ hC2 (List.getElem?_set_self hsl) (by simpa using hi)
    simp only [set_set_row, List.length_set] at hu
    rw [Nat.add_assoc] at *
    have ho : K.own q.1 := .inr ⟨q, List.mem_of_getElem? hq, rfl⟩
    refine ⟨⟨hg.cell hS.sl (by simp), ha 1 _ (ln1 l), (ht 1 (by omega)).2, ⟨_, ha (2 + k) _ (List.getElem?_eq_getElem (by rw [ln_len]; omega))⟩, (ht (2 + k) (by omega)).2⟩, ?_, hu.mono ?_⟩
    · exact hr1.at_ i _ hl1 1 _ (ln1 _)
    · rintro e w' ⟨hv, hc, hk'⟩
      exact ⟨hv, hc, (((Kept.of hg).trans (Kept.one (grown_setCell _ _ _ _) ho)).trans (Kept.one (grown_setCell _ _ _ _) ho)).trans hk'⟩
  have hs1 : (l.s == 1) = false := by simp [hs]
  generalize ss.set (setOf c b) (p.1.set i ((l.word k x).state 3), us p.2 p.1.length i) = ss' at *
  generalize p.1.length = n at *
  generalize setOf c b = s0 at *
  unfold U at HB
  clear hC hT hp hn hS hq hs hl hsl
  go_enter Tryd.func16, Tryd.ntmps16
  go_wp2_with (first
    | (go_at_call 31; ((with_reducible refine HN.out.mono ?_); rintro e w1 ⟨rfl, hg1⟩; have HG1 := Lib.hid (HB.out _ hg1).2.2; have c5 := (HB.out _ hg1).2.1; obtain ⟨c1, c2, f2, ⟨u, c3⟩, f3⟩ := (HB.out _ hg1).1; clear hg1))
    | (go_at_call 33; ((with_reducible refine HG1.out.mono ?_); rintro e w2 ⟨⟨v, rfl⟩, hc2⟩; have HC2 := Lib.hid hc2; clear hc2)))
  go_ret
  exact ⟨rfl, HC2.out⟩
end
end Go.Proofs.YtjbapfjeildfoaaDoor.kk
