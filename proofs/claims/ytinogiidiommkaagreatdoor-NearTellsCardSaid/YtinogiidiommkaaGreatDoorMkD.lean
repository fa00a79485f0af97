/-
  Marks that were made since a world began; rows of ints behind an address, their equality; the laws' own check that marks are kept: definitions and contracts. Condition: for New the table of bounds lies in its variable as the program's text has it.
-/
import Derived.Test.YtinogiidiommkaaGreatDoorMkC
namespace Go.Proofs.YtinogiidiommkaaGreatDoor.mrk
open Go Go.ChangeShapes Go.WideShapes Go.ChangeAt Go.RowKit Go.Maps Go.Sort
open Go.Proofs.YtinogiidiommkaaGreatDoor.tt (Cfg Tab CfgAt cfg_at hb_bounds yes yes_of yes_not may_any data_yes data_no grown_refl grown_alloc grown_trans grown_drew grown_drewN lt_of MapAt mput ik tyne)
set_option linter.unusedVariables false
set_option maxRecDepth 1000000

/-- Marks that were made since w, in the world w'. -/
structure Own (w w' : World) (t b N : Nat) (s : Ms) : Prop where
  mq : MkAt w' t b N s
  old : w.grownBy w' none
  hb : w.heap.size ≤ b
section
variable {w w1 w2 : World} {t b N : Nat} {s s' : Ms}
theorem old_next (h : w.grownBy w1 none) (hb : w.heap.size ≤ b) (hg : w1.grownBy w2 (some b)) : w.grownBy w2 none :=
  ⟨hg.os.trans h.os, hg.tape.trans h.tape, hg.output.trans h.output, Nat.le_trans h.size hg.size, fun k hk _ => (hg.block k (Nat.lt_of_lt_of_le hk h.size) (fun e => by have := Option.some.inj e; omega)).trans (h.block k hk (by simp))⟩
theorem Own.grown (h : Own w w1 t b N s) (hg : w1.grownBy w2 none) : Own w w2 t b N s := ⟨h.mq.grown hg, grown_trans h.old hg, h.hb⟩
theorem Own.next (h : Own w w1 t b N s) (hm : MkAt w2 t b N s') (hg : w1.grownBy w2 (some b)) : Own w w2 t b N s' := ⟨hm, old_next h.old h.hb hg, h.hb⟩
theorem Own.from {w0 : World} (h : Own w w1 t b N s) (hg : w0.grownBy w none) : Own w0 w1 t b N s := ⟨h.mq, grown_trans hg h.old, Nat.le_trans hg.size h.hb⟩
/-- Cells are left alone. -/
theorem Own.cells (h : Own w w1 t b N s) (hg : w1.grownBy w2 (some b)) {g : Nat} {cs : Array Value} {ty : TypeId} {fr : Nat × Nat} (hc : w1.heap[g]? = some (.cells cs ty fr)) : w2.heap[g]? = some (.cells cs ty fr) :=
  (hg.block g (lt_of hc) (fun e => by
    obtain ⟨es, c, hb, _⟩ := h.mq.map
    rw [← Option.some.inj e, hc] at hb
    cases hb)).trans hc
theorem own_new (c : Cfg) (N : Nat) (w : World) (hT : Tab w) (hm : c.may) (hN : c.data = (N : Int)) (hs : N ≤ 256) : Calls Tryz.prog 45 #[.agg c.cells] w fun e w' => ∃ t b, e = .returned (.tuple #[.pointer (some ⟨t, 0, none⟩), .int .i64 0]) ∧ Own w w' t b N Ms.zero :=
  (new_yes c N w hT hm hN hs).mono fun e w' ⟨t, b, he, hM, _, hb, hg⟩ => ⟨t, b, he, hM, hg, hb⟩
theorem own_read (h : Own w w1 t b N s) (k : Int) : Calls Tryz.prog 54 #[.pointer (some ⟨t, 0, none⟩), .int .i64 k] w1 fun e w2 => e = .returned (.int .i64 (addE N k)) ∧ Own w w2 t b N (rdS N s k) ∧ w1.grownBy w2 (some b) :=
  (read_any h.mq k).mono fun e w2 ⟨he, hM, hg⟩ => ⟨he, h.next hM hg, hg⟩
theorem own_write (h : Own w w1 t b N s) (k : Int) : Calls Tryz.prog 50 #[.pointer (some ⟨t, 0, none⟩), .int .i64 k] w1 fun e w2 => e = .returned (.int .i64 (addE N k)) ∧ Own w w2 t b N (wrS N s k) ∧ w1.grownBy w2 (some b) :=
  (write_any h.mq k).mono fun e w2 ⟨he, hM, hg⟩ => ⟨he, h.next hM hg, hg⟩
theorem own_clear (h : Own w w1 t b N s) : Calls Tryz.prog 53 #[.pointer (some ⟨t, 0, none⟩)] w1 fun e w2 => e = .returned (.tuple #[]) ∧ Own w w2 t b N Ms.zero ∧ w1.grownBy w2 (some b) :=
  (clear_any h.mq).mono fun e w2 ⟨he, hM, hg⟩ => ⟨he, h.next hM hg, hg⟩
theorem own_copy (h : Own w w1 t b N s) : Calls Tryz.prog 62 #[.pointer (some ⟨t, 0, none⟩)] w1 fun e w2 => ∃ t' b', e = .returned (.pointer (some ⟨t', 0, none⟩)) ∧ Own w w2 t' b' N s ∧ w1.heap.size ≤ t' ∧ w1.heap.size ≤ b' ∧ w1.grownBy w2 none :=
  (copy_any h.mq).mono fun e w2 ⟨t', b', he, hM, ht, hb, hg⟩ => ⟨t', b', he, ⟨hM, grown_trans h.old hg, Nat.le_trans h.old.size hb⟩, ht, hb, hg⟩
end

/-- The ints xs lie behind the address, one a cell. -/
def IntsAt (w : World) (ad : Option Addr) (xs : List Int) : Prop := ∀ (k : Nat) (x : Int), xs[k]? = some x → ∃ g off, ad = some ⟨g, off, none⟩ ∧ w.cell? ⟨g, off + k, none⟩ = some (.int .i64 x)
theorem IntsAt.grown {w w' : World} {ad : Option Addr} {xs : List Int} (h : IntsAt w ad xs) (hg : w.grownBy w' none) : IntsAt w' ad xs := fun k q hk => by
  obtain ⟨g, off, e, h0⟩ := h k q hk
  exact ⟨g, off, e, hg.cell h0 (by simp)⟩
theorem IntsAt.nil (w : World) (ad : Option Addr) : IntsAt w ad [] := fun k x h => by simp at h
/-- A row of the call's own is ints behind an address. -/
theorem own_ints {w : World} {base : Nat} {v : Value} {n : Nat} {xs : List Int} (h : w.ownsRow base 3 1 v n (xs.map encZ)) : ∃ ad cap, v = .slice ad n cap ∧ IntsAt w ad xs ∧ n ≤ cap := by
  have hcells := fun g (hg : v.ownBlock = some g) => h.cells hg
  have hx : xs.length = n := by simpa using h.1
  rcases h.2 with ⟨rfl, h0⟩ | ⟨g, cap, cur, rfl, hb, hh, hc, _⟩
  · refine ⟨none, 0, by rw [h0], fun k x hk => ?_, by omega⟩
    have : xs = [] := List.length_eq_zero_iff.1 (by omega)
    rw [this] at hk; simp at hk
  · have h1 := hcells g rfl
    refine ⟨_, cap, rfl, fun k x hk => ⟨g, 0, rfl, ?_⟩, hc⟩
    have h2 := h1 k (encZ x) (by rw [List.getElem?_map, hk]; rfl)
    by_cases hj : k = 0
    · subst hj; simpa [Addr.add] using h2
    · simpa [Addr.add, hj] using h2
theorem drop_get (xs : List Int) (k : Nat) (h : k < xs.length) : ∃ x, xs[k]? = some x ∧ xs.drop k = x :: xs.drop (k + 1) :=
  ⟨xs[k], List.getElem?_eq_getElem h, List.drop_eq_getElem_cons h⟩
theorem IntsAt.drewN {w : World} {ad : Option Addr} {xs : List Int} (h : IntsAt w ad xs) (n : Nat) : IntsAt (w.drewN n) ad xs := h.grown (grown_drewN (grown_refl _ _) n)

theorem cfg_data {c : Cfg} (h : c.may) : 1 ≤ c.data ∧ c.data ≤ 256 := by
  have h1 := h.2
  have h2 := hb_bounds (h.1 3 (by omega))
  have h3 := hb_bounds (h.1 0 (by omega))
  have h4 := hb_bounds (h.1 4 (by omega))
  have h2' : (1 : Int) ≤ c.bl ∧ c.bl ≤ 256 := h2
  have h3' : (1 : Int) ≤ c.co ∧ c.co ≤ 16 := h3
  have h4' : (1 : Int) ≤ c.lo ∧ c.lo ≤ 4 := h4
  have h5 : 0 ≤ c.co * c.lo := Int.mul_nonneg (by omega) (by omega)
  unfold Cfg.data at *
  omega
theorem cfg_nat {c : Cfg} (h : c.may) : ∃ N : Nat, c.data = (N : Int) ∧ 1 ≤ N ∧ N ≤ 256 := by
  have := cfg_data h
  exact ⟨c.data.toNat, by omega, by omega, by omega⟩

def c8 : Cfg := ⟨2, 2, 2, 10, 1, 1, 1, 0⟩
def c0 : Cfg := ⟨0, 0, 0, 0, 0, 0, 0, 0⟩
theorem c8_may : c8.may := by decide +kernel
theorem c0_not : ¬ c0.may := by decide +kernel
theorem new8 (w : World) (hT : Tab w) : Calls Tryz.prog 45 #[.agg c8.cells] w fun e w' => ∃ t b, e = .returned (.tuple #[.pointer (some ⟨t, 0, none⟩), .int .i64 0]) ∧ Own w w' t b 8 Ms.zero := own_new c8 8 w hT c8_may rfl (by omega)
def s3 : Ms := rdS 8 Ms.zero 3
def s35 : Ms := wrS 8 s3 5
theorem keys35 : keys 8 s35 = [3, 5] := by decide +kernel
section
variable {w w1 : World} {t b : Nat}
theorem read3 (h : Own w w1 t b 8 Ms.zero) : Calls Tryz.prog 54 #[.pointer (some ⟨t, 0, none⟩), .int .i64 3] w1 fun e w2 => e = .returned (.int .i64 0) ∧ Own w w2 t b 8 s3 := (own_read h 3).mono fun e w2 ⟨he, ho, _⟩ => ⟨he, ho⟩
theorem write5 (h : Own w w1 t b 8 s3) : Calls Tryz.prog 50 #[.pointer (some ⟨t, 0, none⟩), .int .i64 5] w1 fun e w2 => e = .returned (.int .i64 0) ∧ Own w w2 t b 8 s35 := (own_write h 5).mono fun e w2 ⟨he, ho, _⟩ => ⟨he, ho⟩
end
theorem ints35 (w : World) : IntsAt (w.alloc (.cells #[.int .i64 3, .int .i64 5] 3)) (some ⟨w.heap.size, 0, none⟩) [3, 5] := fun k x hk => ⟨_, 0, rfl, by
  rw [Nat.zero_add, cell_of_row _ _ k _ _ _ (heap_alloc_new _ _)]
  match k, hk with
  | 0, hk => cases hk; rfl
  | 1, hk => cases hk; rfl⟩
end Go.Proofs.YtinogiidiommkaaGreatDoor.mrk
