/-
  The two memories, the program's and the document's, side by side: what each call makes of them. No condition but what each theorem names.
-/
import Derived.Test.YtcbkfgcjjhifdaaC16
import Derived.Test.YtcbkfgcjjhifdaaC13
namespace Go.Proofs.Ytcbkfgcjjhifdaa.pp
open Go Go.ChangeShapes Go.WideShapes Go.ChangeAt Go.RowKit
set_option linter.unusedVariables false

/-- Both memories: the program's in block mb, with bs; the document's in block rb, with rs. -/
structure PSt (w W : World) (n mb rb : Nat) (mv rv : Value) (bs rs : List (List Int)) : Prop where
  m : Mem W mb mv bs
  r : RMem W rb rv rs
  lenm : bs.length = n
  lenr : rs.length = n
  g : w.grownBy W none
  hm : ∀ k, mv.ownBlock = some k → w.heap.size ≤ k
  hr : ∀ k, rv.ownBlock = some k → w.heap.size ≤ k

section
variable {w W : World} {n mb rb : Nat} {mv rv : Value} {bs rs : List (List Int)}
theorem PSt.kept (h : PSt w W n mb rb mv rv bs rs) {W' : World} (hg : W.grownBy W' none) : PSt w W' n mb rb mv rv bs rs :=
  ⟨h.m.kept hg, h.r.kept hg, h.lenm, h.lenr, grown_trans h.g hg, h.hm, h.hr⟩
theorem PSt.drew (h : PSt w W n mb rb mv rv bs rs) : PSt w W.drew n mb rb mv rv bs rs := h.kept ⟨rfl, rfl, rfl, Nat.le_refl _, fun _ _ _ => rfl⟩
theorem PSt.ofm (h : PSt w W n mb rb mv rv bs rs) {W' : World} {bs' : List (List Int)} (hm : Mem W' mb mv bs') (hl : bs'.length = n) (hg : W.grownBy W' mv.ownBlock) : PSt w W' n mb rb mv rv bs' rs :=
  ⟨hm, h.r.grown hg fun k hk => by
    obtain ⟨c, hc⟩ := h.m.bl k hk
    exact ⟨c, 55, _, hc, by decide, by decide⟩, hl, h.lenr, grown_fresh h.g hg h.hm, h.hm, h.hr⟩
theorem PSt.ofr (h : PSt w W n mb rb mv rv bs rs) {W' : World} {rs' : List (List Int)} (hr : RMem W' rb rv rs') (hl : rs'.length = n) (hg : W.grownBy W' rv.ownBlock) : PSt w W' n mb rb mv rv bs rs' :=
  ⟨h.m.grown hg fun k hk => by
    obtain ⟨c, hc⟩ := h.r.bl k hk
    refine ⟨fun e => ?_, c, 26, _, hc, by decide, by decide⟩
    obtain ⟨c2, hc2⟩ := h.m.bl k e.symm
    exact tyne hc hc2 (by decide) rfl, hr, h.lenm, hl, grown_fresh h.g hg h.hr, h.hm, h.hr⟩
/-- A block that is not a memory's slice. -/
theorem PSt.nem (h : PSt w W n mb rb mv rv bs rs) {P : Nat} {c : Array Value} {t : TypeId} {f : Nat × Nat} (hP : W.heap[P]? = some (.cells c t f)) (ht : t ≠ 55) : some P ≠ mv.ownBlock := fun e => by
  obtain ⟨c2, hc2⟩ := h.m.bl P e.symm
  exact tyne hP hc2 ht rfl
theorem PSt.ner (h : PSt w W n mb rb mv rv bs rs) {P : Nat} {c : Array Value} {t : TypeId} {f : Nat × Nat} (hP : W.heap[P]? = some (.cells c t f)) (ht : t ≠ 26) : some P ≠ rv.ownBlock := fun e => by
  obtain ⟨c2, hc2⟩ := h.r.bl P e.symm
  exact tyne hP hc2 ht rfl

theorem pset (h : PSt w W n mb rb mv rv bs rs) (i k x : Int) : Calls Try.prog 16 #[.pointer (some ⟨mb, 0, none⟩), .int .i64 i, .int .i64 k, .int .u32 x] W fun e w' => e = .returned (.int .i64 (err (inn n i k))) ∧ PSt w w' n mb rb mv rv (setW bs i k x) rs ∧ W.grownBy w' mv.ownBlock :=
  (set_word_any h.m i k x).mono fun e w' ⟨h1, h2, h3⟩ => ⟨by rw [h.lenm] at h1; exact h1, h.ofm h2 (by rw [setW_length]; exact h.lenm) h3, h3⟩
theorem rset (h : PSt w W n mb rb mv rv bs rs) (i k x : Int) : Calls Try.prog 21 #[.pointer (some ⟨rb, 0, none⟩), .int .i64 i, .int .i64 k, .int .u32 x] W fun e w' => e = .returned (.int .i64 (err (inn n i k))) ∧ PSt w w' n mb rb mv rv bs (setW rs i k x) ∧ W.grownBy w' rv.ownBlock :=
  (rset_word_any rb rv rs i k x W h.r).mono fun e w' ⟨h1, h2, h3⟩ => ⟨by rw [h.lenr] at h1; exact h1, h.ofr h2 (by rw [setW_length]; exact h.lenr) h3, h3⟩
theorem psetb (h : PSt w W n mb rb mv rv bs rs) (i : Int) (x : List Int) (hx : x.length = 16) : Calls Try.prog 17 #[.pointer (some ⟨mb, 0, none⟩), .int .i64 i, .agg (row x)] W fun e w' => e = .returned (.int .i64 (err (inb n i))) ∧ PSt w w' n mb rb mv rv (setB bs i x) rs ∧ W.grownBy w' mv.ownBlock :=
  (set_block_any h.m i x hx).mono fun e w' ⟨h1, h2, h3⟩ => ⟨by rw [h.lenm] at h1; exact h1, h.ofm h2 (by rw [setB_length]; exact h.lenm) h3, h3⟩
theorem rsetb (h : PSt w W n mb rb mv rv bs rs) (i : Int) (x : List Int) (hx : x.length = 16) : Calls Try.prog 23 #[.pointer (some ⟨rb, 0, none⟩), .int .i64 i, .agg (row x)] W fun e w' => e = .returned (.int .i64 (err (inb n i))) ∧ PSt w w' n mb rb mv rv bs (setB rs i x) ∧ W.grownBy w' rv.ownBlock :=
  (rset_block_any rb rv rs i x hx W h.r).mono fun e w' ⟨h1, h2, h3⟩ => ⟨by rw [h.lenr] at h1; exact h1, h.ofr h2 (by rw [setB_length]; exact h.lenr) h3, h3⟩
theorem pword (h : PSt w W n mb rb mv rv bs rs) (i k : Int) : Calls Try.prog 11 #[.pointer (some ⟨mb, 0, none⟩), .int .i64 i, .int .i64 k] W fun e w' => e = .returned (.tuple #[.int .u32 (getW bs i k), .int .i64 (err (inn n i k))]) ∧ PSt w w' n mb rb mv rv bs rs ∧ W.grownBy w' none :=
  (word_any h.m i k).mono fun e w' ⟨h1, h2⟩ => ⟨by rw [h.lenm] at h1; exact h1, h.kept h2, h2⟩
theorem rword (h : PSt w W n mb rb mv rv bs rs) (i k : Int) : Calls Try.prog 22 #[.pointer (some ⟨rb, 0, none⟩), .int .i64 i, .int .i64 k] W fun e w' => e = .returned (.tuple #[.int .u32 (getW rs i k), .int .i64 (err (inn n i k))]) ∧ W = w' :=
  (rword_any rb rv rs i k W h.r).mono fun e w' ⟨h1, h2⟩ => ⟨by rw [h.lenr] at h1; exact h1, h2⟩
theorem pblock (h : PSt w W n mb rb mv rv bs rs) (i : Int) : Calls Try.prog 14 #[.pointer (some ⟨mb, 0, none⟩), .int .i64 i] W fun e w' => e = .returned (.tuple #[.agg (row (getB bs i)), .int .i64 (err (inb n i))]) ∧ PSt w w' n mb rb mv rv bs rs ∧ W.grownBy w' none :=
  (block_any h.m i).mono fun e w' ⟨h1, h2⟩ => ⟨by rw [h.lenm] at h1; exact h1, h.kept h2, h2⟩
theorem rblock (h : PSt w W n mb rb mv rv bs rs) (i : Int) : Calls Try.prog 24 #[.pointer (some ⟨rb, 0, none⟩), .int .i64 i] W fun e w' => e = .returned (.tuple #[.agg (row (getB rs i)), .int .i64 (err (inb n i))]) ∧ PSt w w' n mb rb mv rv bs rs ∧ W.grownBy w' none :=
  (rblock_any rb rv rs i W h.r).mono fun e w' ⟨h1, h2⟩ => ⟨by rw [h.lenr] at h1; exact h1, h.kept h2, h2⟩
end

/-- A call's three cells. -/
def Trip (w : World) (P : Nat) (i k x : Int) : Prop := w.cell? ⟨P, 1, none⟩ = some (.int .i64 i) ∧ w.cell? ⟨P, 2, none⟩ = some (.int .i64 k) ∧ w.cell? ⟨P, 3, none⟩ = some (.int .u32 x)
theorem trip_next {w w' : World} {P : Nat} {i k x : Int} {own : Option Nat} (h : w.cell? ⟨P, 1, none⟩ = some (.int .i64 i) ∧ w.cell? ⟨P, 2, none⟩ = some (.int .i64 k) ∧ w.cell? ⟨P, 3, none⟩ = some (.int .u32 x)) (hg : w.grownBy w' own) (hP : some P ≠ own) :
    w'.cell? ⟨P, 1, none⟩ = some (.int .i64 i) ∧ w'.cell? ⟨P, 2, none⟩ = some (.int .i64 k) ∧ w'.cell? ⟨P, 3, none⟩ = some (.int .u32 x) := ⟨hg.cell h.1 hP, hg.cell h.2.1 hP, hg.cell h.2.2 hP⟩
end Go.Proofs.Ytcbkfgcjjhifdaa.pp
