/-
  What holds of each deal; the document's own deal: what its Stamp, Begin, End, Fail, Over, Asked, Refused answer and make of it: definitions and contracts. No condition but the bounds that each theorem names.
-/
import Derived.Test.YtkpgajegmomihaaDeG
import Derived.Laws.BitsLemmas
import Derived.Laws.Bits64
namespace Go.Proofs.Ytkpgajegmomihaa.de
open Go Go.ChangeShapes Go.WideShapes Go.ChangeAt Go.RowKit
open Go.Proofs.Ytkpgajegmomihaa.tt (U zd row tyne add_lit lt_of range_grown setCells_rest heap_setCells heap_setCells_other grown_setCells grown_setRow grown_new grown_drewN below_of grown_alloc grown_refl grown_trans grown_drew)
open Go.Proofs.Ytkpgajegmomihaa.oo (ref flag' gives older ret_bool jump_ret)
set_option linter.unusedVariables false
set_option maxRecDepth 1000000

/-- What holds of each deal. -/
structure Inv (d : Dl) : Prop where
  n1 : 1 ≤ d.ne
  n8 : d.ne ≤ 8
  d0 : 0 ≤ d.de
  dn : d.de ≤ d.ne
  fl0 : d.de = 0 → d.fl = false
  fa0 : d.de = 0 → d.fa = false
  st0 : d.de ≠ 0 → d.st ≠ 0
  stp : 0 ≤ d.st
  cap : 0 ≤ d.ca
  cau : d.ca < 4294967296
theorem Inv.nw {n : Int} (h1 : 1 ≤ n) (h8 : n ≤ 8) : Inv (nw n) := ⟨h1, h8, Int.le_refl _, by show (0 : Int) ≤ n; omega, fun _ => rfl, fun _ => rfl, fun h => (h rfl).elim, Int.le_refl _, Int.le_refl _, by show (0 : Int) < 4294967296; decide⟩
theorem Inv.cl {d : Dl} (h : Inv d) {k : Int} (hk : 0 ≤ k) : Inv (cl d k) := ⟨h.n1, h.n8, Int.le_refl _, by have := h.n1; show (0 : Int) ≤ d.ne; omega, fun _ => rfl, fun _ => rfl, fun h => (h rfl).elim, hk, Int.le_refl _, by show (0 : Int) < 4294967296; decide⟩
theorem bE_zero {d : Dl} {x : Int} (h : bE d x = 0) : x ≠ 0 ∧ d.fa = false ∧ d.de ≠ d.ne := by
  unfold bE at h
  by_cases h1 : x = 0
  · simp [h1] at h
  · by_cases h2 : d.fa = true
    · simp [h1, h2] at h
    · by_cases h3 : d.de = d.ne
      · simp [h1, h2, h3] at h
      · exact ⟨h1, by simpa using h2, h3⟩
theorem Inv.bD {d : Dl} (h : Inv d) {s : Sv} {x : Int} (hx : 0 ≤ x) : Inv (bD d s x) := by
  unfold de.bD
  by_cases he : bE d x = 0
  · obtain ⟨h1, h2, h3⟩ := bE_zero he
    rw [if_pos he]
    have a1 := h.n1
    have a2 := h.n8
    have a3 := h.d0
    have a4 := h.dn
    by_cases hz : d.de = 0
    · rw [if_pos hz]
      refine ⟨h.n1, h.n8, by show (0 : Int) ≤ 1; decide, by show (1 : Int) ≤ d.ne; omega, fun e => ?_, fun e => ?_, fun _ => ?_, ?_, h.cap, h.cau⟩
      · exact absurd (show (1 : Int) = 0 from e) (by decide)
      · exact absurd (show (1 : Int) = 0 from e) (by decide)
      · show (if d.st = 0 then x else d.st) ≠ 0
        split <;> assumption
      · show 0 ≤ (if d.st = 0 then x else d.st)
        have := h.stp
        split <;> omega
    · rw [if_neg hz]
      exact ⟨h.n1, h.n8, by show (0 : Int) ≤ d.de + 1; omega, by show d.de + 1 ≤ d.ne; omega, fun e => absurd (show d.de + 1 = 0 from e) (by omega), fun e => absurd (show d.de + 1 = 0 from e) (by omega), fun _ => h.st0 hz, h.stp, h.cap, h.cau⟩
  · rw [if_neg he]; exact h
theorem Inv.eD {d : Dl} (h : Inv d) : Inv (eD d) := by
  unfold de.eD
  by_cases he : gE d = 0
  · obtain ⟨hz, hf⟩ := gE_no he
    rw [if_pos he]
    have a3 := h.d0
    have a4 := h.dn
    by_cases h1 : d.de = 1
    · rw [if_pos h1]; exact h.cl (Int.le_refl _)
    · rw [if_neg h1]
      exact ⟨h.n1, h.n8, by show (0 : Int) ≤ d.de - 1; omega, by show d.de - 1 ≤ d.ne; omega, fun e => absurd (show d.de - 1 = 0 from e) (by omega), fun e => absurd (show d.de - 1 = 0 from e) (by omega), fun _ => h.st0 hz, h.stp, h.cap, h.cau⟩
  · rw [if_neg he]; exact h
theorem Inv.fD {d : Dl} (h : Inv d) {c : Int} (h0 : 0 ≤ c) (h1 : c < 4294967296) : Inv (fD d c) := by
  unfold de.fD
  by_cases he : gE d = 0
  · obtain ⟨hz, hf⟩ := gE_no he
    rw [if_pos he]
    exact ⟨h.n1, h.n8, h.d0, h.dn, h.fl0, fun e => absurd e hz, h.st0, h.stp, h0, h1⟩
  · rw [if_neg he]; exact h
theorem kp_pos {d : Dl} (h : Inv d) : 0 ≤ kp d := by
  unfold kp
  have := h.stp
  split <;> omega
theorem Inv.oD {d : Dl} (h : Inv d) : Inv (oD d) := by
  unfold de.oD
  split
  · exact h.cl (kp_pos h)
  · exact h
theorem Inv.aD {d : Dl} (h : Inv d) (m : Bool) (x : Int) : Inv (aD d m x) :=
  ⟨h.n1, h.n8, h.d0, h.dn, fun e => by
    have e' : d.de = 0 := e
    show flag' (sT d) d.fl m x = false
    rw [h.fl0 e']; simp [flag', ref, sT, e'], h.fa0, h.st0, h.stp, h.cap, h.cau⟩
theorem sT_pos {d : Dl} (h : Inv d) : 0 ≤ sT d := by
  unfold sT
  have := h.stp
  split <;> omega

/-- The document's deal d lies in block g. -/
abbrev RAt (w : World) (g : Nat) (d : Dl) : Prop := DAt 47 w g d
/-- As d, but for what is saved and for the cause. -/
def mir (d : Dl) (s : Sv) (c : Int) : Dl := { d with s := s, ca := c }
/-- Both are d's where they matter. -/
def Ag (d : Dl) (s : Sv) (c : Int) : Prop := (d.de ≠ 0 → s = d.s) ∧ (d.fa = true → c = d.ca)
/-- The document's deal is as d. -/
def Both (w : World) (g : Nat) (d : Dl) : Prop := ∃ s c, RAt w g (mir d s c) ∧ Ag d s c
theorem and255 (c : Int) (h0 : 0 ≤ c) (h1 : c < 4294967296) : bits .and .u32 c 255 = c % 256 := by
  have h := bits_mask .u32 32 (by decide) (fun n h0 h1 => by rw [IntKind.wrap_u32]; omega) 8 (by decide) c h0 (by omega)
  have e : ((2 : Int) ^ 8 - 1) = 255 := by decide
  have e2 : ((2 : Int) ^ 8) = 256 := by decide
  rw [e, e2] at h
  exact h

section
variable {w : World} {g : Nat} {d : Dl} {s : Sv} {c : Int}
theorem rstamp_at (h : RAt w g d) : Calls Try.prog 28 #[.pointer (some ⟨g, 0, none⟩)] w fun e w' => e = .returned (.int .u64 (sT d)) ∧ w = w' := by
  obtain ⟨c0, c1, c19, c20, c21, c22⟩ := h.cells
  clear h
  by_cases h0 : d.de = 0
  · rw [h0] at c1
    go_enter Try.func28, Try.ntmps28
    go_wp2
    go_ret
    exact ⟨ret_i (by simp [sT, h0]), rfl⟩
  · have h0' : (d.de == 0) = false := by simp [h0]
    go_enter Try.func28, Try.ntmps28
    go_wp2
    go_ret
    exact ⟨ret_i (by simp [sT, h0]), rfl⟩
theorem rstamp_any (h : Both w g d) : Calls Try.prog 28 #[.pointer (some ⟨g, 0, none⟩)] w fun e w' => e = .returned (.int .u64 (sT d)) ∧ w = w' := by
  obtain ⟨s, c, h, _⟩ := h
  exact rstamp_at (d := mir d s c) h
theorem Both.same {w' : World} (h : Both w g d) (hb : w'.heap[g]? = w.heap[g]?) : Both w' g d := by
  obtain ⟨s, c, h, ha⟩ := h
  exact ⟨s, c, h.same hb, ha⟩
theorem Both.lt (h : Both w g d) : g < w.heap.size := by
  obtain ⟨s, c, h, ha⟩ := h
  exact h.lt
theorem Both.grown {w' : World} (h : Both w g d) {own : Option Nat} (hg : w.grownBy w' own) (hn : some g ≠ own) : Both w' g d := h.same (hg.block g h.lt hn)
theorem Both.cells (h : Both w g d) : w.cell? ⟨g, 0, none⟩ = some (.int .i64 d.ne) ∧ w.cell? ⟨g, 1, none⟩ = some (.int .i64 d.de) ∧ w.cell? ⟨g, 19, none⟩ = some (.int .u64 d.st) ∧ w.cell? ⟨g, 20, none⟩ = some (.bool d.fl) ∧ w.cell? ⟨g, 21, none⟩ = some (.bool d.fa) := by
  obtain ⟨s, c, h, ha⟩ := h
  obtain ⟨c0, c1, c19, c20, c21, c22⟩ := h.cells
  exact ⟨c0, c1, c19, c20, c21⟩
theorem rfail_any (I : Inv d) (h : Both w g d) (x : Int) : Calls Try.prog 24 #[.pointer (some ⟨g, 0, none⟩), .int .u32 x] w fun e w' => e = .returned (.int .i64 (gE d)) ∧ Both w' g (fD d x) ∧ w.grownBy w' (some g) := by
  obtain ⟨s, c, h, ha⟩ := h
  obtain ⟨c0, c1, c19, c20, c21, c22⟩ := h.cells
  have f21 := h.free 21
  have f22 := h.free 22
  have H := Lib.hid (And.intro h ha)
  have k1 : w.cell? ⟨g, 1, none⟩ = some (.int .i64 d.de) := c1
  have k21 : w.cell? ⟨g, 21, none⟩ = some (.bool d.fa) := c21
  clear h ha c0 c1 c19 c20 c21
  by_cases hz : d.de = 0
  · have hE : gE d = 8 := by simp [gE, hz]
    have HE : Hid (gE d = 8 ∧ fD d x = d) := Lib.hid ⟨hE, by unfold fD; rw [hE]; simp⟩
    rw [hz] at k1
    clear hE hz c22
    go_enter Try.func24, Try.ntmps24
    go_wp2
    go_ret
    rw [HE.out.1, HE.out.2]
    exact ⟨rfl, ⟨s, c, H.out.1, H.out.2⟩, grown_refl _ _⟩
  · have hz' : (d.de == 0) = false := by simp [hz]
    cases hf : d.fa
    · have hE : gE d = 0 := by simp [gE, hz, hf]
      have HE : Hid (gE d = 0 ∧ fD d x = { d with fa := true, ca := x }) := Lib.hid ⟨hE, by unfold fD; rw [hE]; simp⟩
      rw [hf] at k21
      clear hE hf
      go_enter Try.func24, Try.ntmps24
      go_wp2
      go_ret
      rw [HE.out.1, HE.out.2]
      exact ⟨rfl, ⟨s, x, (H.out.1.put_fa true).put_ca x, H.out.2.1, fun _ => rfl⟩, grown_trans (grown_setCell _ _ _ _) (grown_setCell _ _ _ _)⟩
    · have hE : gE d = 8 := by simp [gE, hf]
      have HE : Hid (gE d = 8 ∧ fD d x = d) := Lib.hid ⟨hE, by unfold fD; rw [hE]; simp⟩
      rw [hf] at k21
      clear hE hf c22
      go_enter Try.func24, Try.ntmps24
      go_wp2
      go_ret
      rw [HE.out.1, HE.out.2]
      exact ⟨rfl, ⟨s, c, H.out.1, H.out.2⟩, grown_refl _ _⟩
theorem rend_any (I : Inv d) (h : Both w g d) : Calls Try.prog 23 #[.pointer (some ⟨g, 0, none⟩)] w fun e w' => e = .returned (.tuple #[.bool (eC d), .int .i64 (gE d)]) ∧ Both w' g (eD d) ∧ w.grownBy w' (some g) := by
  obtain ⟨s, c, h, ha⟩ := h
  obtain ⟨c0, c1, c19, c20, c21, c22⟩ := h.cells
  have f1 := h.free 1
  have f19 := h.free 19
  have f20 := h.free 20
  have H := Lib.hid (And.intro h ha)
  have HI := Lib.hid I
  have k1 : w.cell? ⟨g, 1, none⟩ = some (.int .i64 d.de) := c1
  have k21 : w.cell? ⟨g, 21, none⟩ = some (.bool d.fa) := c21
  clear h ha c0 c1 c21 c22 I
  by_cases hz : d.de = 0
  · have hE : gE d = 8 := by simp [gE, hz]
    have HE : Hid (gE d = 8 ∧ eD d = d ∧ eC d = false) := Lib.hid ⟨hE, by unfold eD; rw [hE]; simp, by unfold eC; rw [hE]; simp⟩
    rw [hz] at k1
    clear hE hz c19 c20
    go_enter Try.func23, Try.ntmps23
    go_wp2
    go_ret2
    rw [HE.out.1, HE.out.2.1, HE.out.2.2]
    exact ⟨rfl, ⟨s, c, H.out.1, H.out.2⟩, grown_refl _ _⟩
  · have hz' : (d.de == 0) = false := by simp [hz]
    cases hf : d.fa
    · have hE : gE d = 0 := by simp [gE, hz, hf]
      rw [hf] at k21
      by_cases h1 : d.de = 1
      · have HE : Hid (gE d = 0 ∧ eD d = cl d 0 ∧ eC d = true) := Lib.hid ⟨hE, by unfold eD; rw [hE, if_pos rfl, if_pos h1], by unfold eC; rw [hE]; simp [h1]⟩
        rw [h1] at k1
        have HF := Lib.hid hf
        clear hE hf h1 hz hz'
        go_enter Try.func23, Try.ntmps23
        go_wp2
        go_ret2
        rw [HE.out.1, HE.out.2.1, HE.out.2.2]
        have := ((H.out.1.put_de 0).put_st 0).put_fl false
        refine ⟨rfl, ⟨s, c, ?_, fun h => (h rfl).elim, fun h => (by cases h)⟩, grown_trans (grown_trans (grown_setCell _ _ _ _) (grown_setCell _ _ _ _)) (grown_setCell _ _ _ _)⟩
        have e : mir (cl d 0) s c = { { { mir d s c with de := 0 } with st := 0 } with fl := false } := by simp [mir, cl, HF.out]
        rw [e]; exact this
      · have HE : Hid (gE d = 0 ∧ eD d = { d with de := d.de - 1 } ∧ eC d = false) := Lib.hid ⟨hE, by unfold eD; rw [hE, if_pos rfl, if_neg h1], by unfold eC; rw [hE]; simp [h1]⟩
        obtain ⟨m, hm⟩ : ∃ m, d.de - 1 = m := ⟨_, rfl⟩
        have hm0 : (m == 0) = false := by
          have : m ≠ 0 := by omega
          simpa using this
        have hm1 : d.de = m + 1 := by omega
        have hm2 : 0 ≤ m := by have := HI.out.d0; omega
        have hm3 : m ≤ 8 := by have := HI.out.dn; have := HI.out.n8; omega
        have HP : Hid (RAt (w.setCell ⟨g, 1, none⟩ (.int .i64 m)) g (mir { d with de := d.de - 1 } s c) ∧ Ag { d with de := d.de - 1 } s c) := Lib.hid ⟨by rw [hm]; exact H.out.1.put_de m, fun _ => H.out.2.1 hz, H.out.2.2⟩
        rw [hm1] at k1
        clear hE hf h1 hz hz' hm1 hm
        go_enter Try.func23, Try.ntmps23
        go_wp2
        go_ret2
        rw [HE.out.1, HE.out.2.1, HE.out.2.2]
        exact ⟨by simp, ⟨s, c, HP.out.1, HP.out.2⟩, grown_setCell _ _ _ _⟩
    · have hE : gE d = 8 := by simp [gE, hf]
      have HE : Hid (gE d = 8 ∧ eD d = d ∧ eC d = false) := Lib.hid ⟨hE, by unfold eD; rw [hE]; simp, by unfold eC; rw [hE]; simp⟩
      rw [hf] at k21
      clear hE hf c19 c20
      go_enter Try.func23, Try.ntmps23
      go_wp2
      go_ret2
      rw [HE.out.1, HE.out.2.1, HE.out.2.2]
      exact ⟨rfl, ⟨s, c, H.out.1, H.out.2⟩, grown_refl _ _⟩
end
end Go.Proofs.Ytkpgajegmomihaa.de
