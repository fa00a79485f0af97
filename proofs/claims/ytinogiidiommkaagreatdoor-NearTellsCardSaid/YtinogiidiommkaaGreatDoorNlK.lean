/-
  Whether a note fits; what a near hands over: contracts. Conditions: as NlA names them.
-/
import Derived.Test.YtinogiidiommkaaGreatDoorNlJ
namespace Go.Proofs.YtinogiidiommkaaGreatDoor.nl
open Go Go.ChangeShapes Go.WideShapes Go.ChangeAt Go.RowKit Go.Shelf
open Go.Proofs.YtinogiidiommkaaGreatDoor.nr
open Go.Proofs.YtinogiidiommkaaGreatDoor.tt (Cfg Nt na nt zn bare zd fits row tyne lt_of U Tab TabK grown_refl grown_trans grown_alloc grown_setCells grown_drew grown_drewN yes Sl Next flat)
open Go.Proofs.YtinogiidiommkaaGreatDoor.kk (Ln St zl la ln cfind cdrop cuse cgoes cwrite cturn cput setAt setOf live fF Shp Cac Kept)
open Go.Proofs.YtinogiidiommkaaGreatDoor.bk (Bk rem kills puts putE fd fl Nd Rg dead fresh BkAt)
open Go.Proofs.YtinogiidiommkaaGreatDoor.mrk (Ms rdS wrS meets addE Dom MkAt)
open Go.Proofs.YtinogiidiommkaaGreatDoor.de (Dl sT gE rF aD LAt)
open Go.Proofs.YtinogiidiommkaaGreatDoor.oo (ref)
set_option linter.unusedVariables false
set_option maxRecDepth 1000000
set_option maxHeartbeats 4000000

/-- A note that a near may take. -/
def fit (P : Pm) (n : Nt) : Bool := decide (n.ok ∧ n.t = P.core ∧ n.b < (P.N : Int))
theorem fit_iff {P : Pm} (h : Pok P) {n : Nt} : fit P n = true ↔ (fits P.c n ∧ n.t = P.core) := by
  have hd := h.data
  have h0 := h.c0
  have h1 := h.c1
  unfold fit
  rw [decide_eq_true_iff]
  constructor
  · rintro ⟨ho, ht, hb⟩
    have hr := (tt.rule_ok n ho.1 ho.2.1).1 ho
    have hT : tt.tH n.k = false := by
      cases hx : tt.tH n.k
      · rfl
      · have := hr.at_
        rw [hx] at this
        simp at this
        omega
    have ha := hr.at_
    rw [hT] at ha
    have hf : n.f = -1 := by simpa using ha
    exact ⟨⟨ho, ⟨by omega, by omega⟩, by omega⟩, ht⟩
  · rintro ⟨⟨ho, _, hb⟩, ht⟩
    exact ⟨ho, ht, by omega⟩
section
variable {w : World} {L : LL} {P : Pm} {k : Nr} (h : LN w L P k)
include h
theorem fits_any (n : Nt) : Calls Tryz.prog 56 #[.pointer (some ⟨L.q, 0, none⟩), .agg (na n)] w fun e w' => e = .returned (.bool (fit P n)) ∧ w.grownBy w' none := by
  have hg0 : w.grownBy (w.alloc (.cells (na n) 37)) none := grown_alloc (grown_refl _ _) _
  have hb0 := heap_alloc_new w (.cells (na n) 37)
  have HG0 := Lib.hid hg0
  have HS : Hid (∀ W, (w.alloc (.cells (na n) 37)).grownBy W none → W.cell? ⟨L.q, 0, none⟩ = some (.int .i64 P.core) ∧ W.cell? ⟨L.q, 1, none⟩ = some (.int .i64 (P.N : Int)) ∧ W.cell? ⟨w.heap.size, 2, none⟩ = some (.int .i64 n.t) ∧ W.cell? ⟨w.heap.size, 3, none⟩ = some (.int .i64 n.b) ∧ W.rangeAt w.heap.size 0 (nt n)) := Lib.hid fun W hg => by
    have hl := h.grown (grown_trans hg0 hg)
    have hr := tt.range_of ((hg.block _ (lt_of hb0) (by simp)).trans hb0)
    exact ⟨hl.c0, hl.c1, tt.cell_at hr 2 _ rfl, tt.cell_at hr 3 _ rfl, hr⟩
  have HM := Lib.hid (tt.nmay_any n (w.alloc (.cells (na n) 37)).drew (h.tb.k.grown (grown_trans hg0 (grown_drew (grown_refl _ _)))))
  have HC0 := Lib.hid (HS.out _ (grown_drew (grown_refl _ _)))
  obtain ⟨t, nn, HT, hagg, hsize, hld, hsz, hst⟩ := namedN
  have hld2 := hld w.heap.size 0 n
  have hfit : fit P n = (decide n.ok && (decide (n.t = P.core) && decide (n.b < (P.N : Int)))) := by
    unfold fit
    by_cases h1 : n.ok <;> by_cases h2 : n.t = P.core <;> by_cases h3 : n.b < (P.N : Int) <;> simp [h1, h2, h3]
  rw [hfit]
  by_cases ho : n.ok
  · have hy : yes n.ok = 0 := by simp [yes, ho]
    rw [hy] at HM
    rw [decide_eq_true ho]
    by_cases ht : n.t = P.core
    · have e1 : (n.t == P.core) = true := by simp [ht]
      rw [decide_eq_true ht]
      clear h hg0 hb0 hld hsz hst hfit ho hy ht
      go_enter Tryz.func56, Tryz.ntmps56
      go_upto_region 1 with fail
      rw [HT.out.1]
      refine wp_region_held_drew (S := fun W => W.cell? ⟨L.q, 0, none⟩ = some (.int .i64 P.core) ∧ W.cell? ⟨L.q, 1, none⟩ = some (.int .i64 (P.N : Int)) ∧ W.cell? ⟨w.heap.size, 2, none⟩ = some (.int .i64 n.t) ∧ W.cell? ⟨w.heap.size, 3, none⟩ = some (.int .i64 n.b) ∧ W.rangeAt w.heap.size 0 (nt n)) (by kernel_rfl) HC0.out (fun hHeld => ?_)
      refine wpAnyH_take (i := 0) (oi := ⟨some 5, Op.load t (Operand.tmp 3), _, _, _, _⟩) (v := ?v43) rfl (by kernel_rfl) (by kernel_rfl) (by kernel_rfl) (fun _ _ _ h => h) (Or.inl ⟨by rfl, ?hy43⟩) (by assumption) ?rest43
      case hy43 => ((intro w0 hSw; (try dsimp only at hSw); obtain ⟨hs0, hs1, hs2, hs3, hsr⟩ := hSw; have hl0 := hld2 _ hsr; go_simp); try (with_reducible rfl))
      try simp only [Act.put, List.setIfInBounds_toArray, List.set_cons_zero, List.set_cons_succ]
      refine wpAnyH_ready (rs := [1]) (by kernel_rfl) (by simp) ?_
      refine AllReadyH.cons (o := ⟨some 6, Op.call { callee := Callee.value (Operand.func 95), args := #[(Operand.tmp 5)], argTypes := #[37] }, _, _, _, _⟩) rfl (fun K hK => ?_) AllReadyH.nil
      go_simp
      go_at_call 95; ((with_reducible refine HM.out.mono ?_); rintro e w1 ⟨rfl, hg1⟩; have HG1 := Lib.hid hg1; have HC1 := Lib.hid (HS.out w1 (grown_trans (grown_drew (grown_refl _ _)) hg1)); clear hg1)
      go_wp2_with fail
      refine hK.out _ _ HC1.out (fun hHeld1 => ?_)
      clear hK K
      try simp only [Act.put, List.setIfInBounds_toArray, List.set_cons_zero, List.set_cons_succ]
      refine wpAnyH_take (i := 2) (oi := ⟨some 7, Op.binOp BinOp.eql _ (Operand.tmp 6) (Operand.const (Value.int IntKind.i64 0)) _, _, _, _, _⟩) (v := ?v44) rfl (by kernel_rfl) (by kernel_rfl) (by kernel_rfl) (fun _ _ _ h => h) (Or.inl ⟨by rfl, ?hy44⟩) (by assumption) ?rest44
      case hy44 => ((intro w0 hSw; (try dsimp only at hSw); obtain ⟨hs0, hs1, hs2, hs3, hsr⟩ := hSw; have hl0 := hld2 _ hsr; go_simp); try (with_reducible rfl))
      try simp only [Act.put, List.setIfInBounds_toArray, List.set_cons_zero, List.set_cons_succ]
      refine wpAnyH_take (i := 3) (oi := ⟨some 8, Op.move (Operand.tmp 7), _, _, _, _⟩) (v := ?v45) rfl (by kernel_rfl) (by kernel_rfl) (by kernel_rfl) (fun _ _ _ h => h) (Or.inl ⟨by rfl, ?hy45⟩) (by assumption) ?rest45
      case hy45 => ((intro w0 hSw; (try dsimp only at hSw); obtain ⟨hs0, hs1, hs2, hs3, hsr⟩ := hSw; have hl0 := hld2 _ hsr; go_simp); try (with_reducible rfl))
      try simp only [Act.put, List.setIfInBounds_toArray, List.set_cons_zero, List.set_cons_succ]
      refine wpAnyH_take (i := 4) (oi := ⟨some 9, Op.fieldAddr 37 (Operand.tmp 3) 2, _, _, _, _⟩) (v := ?v46) rfl (by kernel_rfl) (by kernel_rfl) (by kernel_rfl) (fun _ _ _ h => h) (Or.inl ⟨by rfl, ?hy46⟩) (by assumption) ?rest46
      case hy46 => ((intro w0 hSw; (try dsimp only at hSw); obtain ⟨hs0, hs1, hs2, hs3, hsr⟩ := hSw; have hl0 := hld2 _ hsr; go_simp); try (with_reducible rfl))
      try simp only [Act.put, List.setIfInBounds_toArray, List.set_cons_zero, List.set_cons_succ]
      refine wpAnyH_take (i := 5) (oi := ⟨some 10, Op.load 3 (Operand.tmp 9), _, _, _, _⟩) (v := ?v47) rfl (by kernel_rfl) (by kernel_rfl) (by kernel_rfl) (fun _ _ _ h => h) (Or.inl ⟨by rfl, ?hy47⟩) (by assumption) ?rest47
      case hy47 => ((intro w0 hSw; (try dsimp only at hSw); obtain ⟨hs0, hs1, hs2, hs3, hsr⟩ := hSw; have hl0 := hld2 _ hsr; go_simp); try (with_reducible rfl))
      try simp only [Act.put, List.setIfInBounds_toArray, List.set_cons_zero, List.set_cons_succ]
      refine wpAnyH_take (i := 6) (oi := ⟨some 11, Op.move (Operand.tmp 0), _, _, _, _⟩) (v := ?v48) rfl (by kernel_rfl) (by kernel_rfl) (by kernel_rfl) (fun _ _ _ h => h) (Or.inl ⟨by rfl, ?hy48⟩) (by assumption) ?rest48
      case hy48 => ((intro w0 hSw; (try dsimp only at hSw); obtain ⟨hs0, hs1, hs2, hs3, hsr⟩ := hSw; have hl0 := hld2 _ hsr; go_simp); try (with_reducible rfl))
      try simp only [Act.put, List.setIfInBounds_toArray, List.set_cons_zero, List.set_cons_succ]
      refine wpAnyH_take (i := 7) (oi := ⟨some 12, Op.nilCheck (Operand.tmp 11), _, _, _, _⟩) (v := ?v49) rfl (by kernel_rfl) (by kernel_rfl) (by kernel_rfl) (fun _ _ _ h => h) (Or.inl ⟨by rfl, ?hy49⟩) (by assumption) ?rest49
      case hy49 => ((intro w0 hSw; (try dsimp only at hSw); obtain ⟨hs0, hs1, hs2, hs3, hsr⟩ := hSw; have hl0 := hld2 _ hsr; go_simp); try (with_reducible rfl))
      try simp only [Act.put, List.setIfInBounds_toArray, List.set_cons_zero, List.set_cons_succ]
      refine wpAnyH_take (i := 8) (oi := ⟨some 13, Op.fieldAddr 96 (Operand.tmp 12) 0, _, _, _, _⟩) (v := ?v50) rfl (by kernel_rfl) (by kernel_rfl) (by kernel_rfl) (fun _ _ _ h => h) (Or.inl ⟨by rfl, ?hy50⟩) (by assumption) ?rest50
      case hy50 => ((intro w0 hSw; (try dsimp only at hSw); obtain ⟨hs0, hs1, hs2, hs3, hsr⟩ := hSw; have hl0 := hld2 _ hsr; go_simp); try (with_reducible rfl))
      try simp only [Act.put, List.setIfInBounds_toArray, List.set_cons_zero, List.set_cons_succ]
      refine wpAnyH_take (i := 9) (oi := ⟨some 14, Op.load 3 (Operand.tmp 13), _, _, _, _⟩) (v := ?v51) rfl (by kernel_rfl) (by kernel_rfl) (by kernel_rfl) (fun _ _ _ h => h) (Or.inl ⟨by rfl, ?hy51⟩) (by assumption) ?rest51
      case hy51 => ((intro w0 hSw; (try dsimp only at hSw); obtain ⟨hs0, hs1, hs2, hs3, hsr⟩ := hSw; have hl0 := hld2 _ hsr; go_simp); try (with_reducible rfl))
      try simp only [Act.put, List.setIfInBounds_toArray, List.set_cons_zero, List.set_cons_succ]
      refine wpAnyH_take (i := 10) (oi := ⟨some 15, Op.binOp BinOp.eql 3 (Operand.tmp 10) (Operand.tmp 14) 3, _, _, _, _⟩) (v := ?v52) rfl (by kernel_rfl) (by kernel_rfl) (by kernel_rfl) (fun _ _ _ h => h) (Or.inl ⟨by rfl, ?hy52⟩) (by assumption) ?rest52
      case hy52 => ((intro w0 hSw; (try dsimp only at hSw); obtain ⟨hs0, hs1, hs2, hs3, hsr⟩ := hSw; have hl0 := hld2 _ hsr; go_simp); try (with_reducible rfl))
      try simp only [Act.put, List.setIfInBounds_toArray, List.set_cons_zero, List.set_cons_succ]
      refine wpAnyH_take (i := 11) (oi := ⟨some 16, Op.pick (Operand.tmp 8) (Operand.tmp 15) (Operand.const (Value.bool false)), _, _, _, _⟩) (v := ?v53) rfl (by kernel_rfl) (by kernel_rfl) (by kernel_rfl) (fun _ _ _ h => h) (Or.inl ⟨by rfl, ?hy53⟩) (by assumption) ?rest53
      case hy53 => ((intro w0 hSw; (try dsimp only at hSw); obtain ⟨hs0, hs1, hs2, hs3, hsr⟩ := hSw; have hl0 := hld2 _ hsr; go_simp); try (with_reducible rfl))
      try simp only [Act.put, List.setIfInBounds_toArray, List.set_cons_zero, List.set_cons_succ]
      refine wpAnyH_take (i := 12) (oi := ⟨some 17, Op.move (Operand.tmp 16), _, _, _, _⟩) (v := ?v54) rfl (by kernel_rfl) (by kernel_rfl) (by kernel_rfl) (fun _ _ _ h => h) (Or.inl ⟨by rfl, ?hy54⟩) (by assumption) ?rest54
      case hy54 => ((intro w0 hSw; (try dsimp only at hSw); obtain ⟨hs0, hs1, hs2, hs3, hsr⟩ := hSw; have hl0 := hld2 _ hsr; go_simp); try (with_reducible rfl))
      try simp only [Act.put, List.setIfInBounds_toArray, List.set_cons_zero, List.set_cons_succ]
      refine wpAnyH_take (i := 13) (oi := ⟨some 18, Op.fieldAddr 37 (Operand.tmp 3) 3, _, _, _, _⟩) (v := ?v55) rfl (by kernel_rfl) (by kernel_rfl) (by kernel_rfl) (fun _ _ _ h => h) (Or.inl ⟨by rfl, ?hy55⟩) (by assumption) ?rest55
      case hy55 => ((intro w0 hSw; (try dsimp only at hSw); obtain ⟨hs0, hs1, hs2, hs3, hsr⟩ := hSw; have hl0 := hld2 _ hsr; go_simp); try (with_reducible rfl))
      try simp only [Act.put, List.setIfInBounds_toArray, List.set_cons_zero, List.set_cons_succ]
      refine wpAnyH_take (i := 14) (oi := ⟨some 19, Op.load 3 (Operand.tmp 18), _, _, _, _⟩) (v := ?v56) rfl (by kernel_rfl) (by kernel_rfl) (by kernel_rfl) (fun _ _ _ h => h) (Or.inl ⟨by rfl, ?hy56⟩) (by assumption) ?rest56
      case hy56 => ((intro w0 hSw; (try dsimp only at hSw); obtain ⟨hs0, hs1, hs2, hs3, hsr⟩ := hSw; have hl0 := hld2 _ hsr; go_simp); try (with_reducible rfl))
      try simp only [Act.put, List.setIfInBounds_toArray, List.set_cons_zero, List.set_cons_succ]
      refine wpAnyH_take (i := 15) (oi := ⟨some 20, Op.move (Operand.tmp 0), _, _, _, _⟩) (v := ?v57) rfl (by kernel_rfl) (by kernel_rfl) (by kernel_rfl) (fun _ _ _ h => h) (Or.inl ⟨by rfl, ?hy57⟩) (by assumption) ?rest57
      case hy57 => ((intro w0 hSw; (try dsimp only at hSw); obtain ⟨hs0, hs1, hs2, hs3, hsr⟩ := hSw; have hl0 := hld2 _ hsr; go_simp); try (with_reducible rfl))
      try simp only [Act.put, List.setIfInBounds_toArray, List.set_cons_zero, List.set_cons_succ]
      refine wpAnyH_take (i := 16) (oi := ⟨some 21, Op.nilCheck (Operand.tmp 20), _, _, _, _⟩) (v := ?v58) rfl (by kernel_rfl) (by kernel_rfl) (by kernel_rfl) (fun _ _ _ h => h) (Or.inl ⟨by rfl, ?hy58⟩) (by assumption) ?rest58
      case hy58 => ((intro w0 hSw; (try dsimp only at hSw); obtain ⟨hs0, hs1, hs2, hs3, hsr⟩ := hSw; have hl0 := hld2 _ hsr; go_simp); try (with_reducible rfl))
      try simp only [Act.put, List.setIfInBounds_toArray, List.set_cons_zero, List.set_cons_succ]
      refine wpAnyH_take (i := 17) (oi := ⟨some 22, Op.fieldAddr 96 (Operand.tmp 21) 1, _, _, _, _⟩) (v := ?v59) rfl (by kernel_rfl) (by kernel_rfl) (by kernel_rfl) (fun _ _ _ h => h) (Or.inl ⟨by rfl, ?hy59⟩) (by assumption) ?rest59
      case hy59 => ((intro w0 hSw; (try dsimp only at hSw); obtain ⟨hs0, hs1, hs2, hs3, hsr⟩ := hSw; have hl0 := hld2 _ hsr; go_simp); try (with_reducible rfl))
      try simp only [Act.put, List.setIfInBounds_toArray, List.set_cons_zero, List.set_cons_succ]
      refine wpAnyH_take (i := 18) (oi := ⟨some 23, Op.load 3 (Operand.tmp 22), _, _, _, _⟩) (v := ?v60) rfl (by kernel_rfl) (by kernel_rfl) (by kernel_rfl) (fun _ _ _ h => h) (Or.inl ⟨by rfl, ?hy60⟩) (by assumption) ?rest60
      case hy60 => ((intro w0 hSw; (try dsimp only at hSw); obtain ⟨hs0, hs1, hs2, hs3, hsr⟩ := hSw; have hl0 := hld2 _ hsr; go_simp); try (with_reducible rfl))
      try simp only [Act.put, List.setIfInBounds_toArray, List.set_cons_zero, List.set_cons_succ]
      refine wpAnyH_take (i := 19) (oi := ⟨some 24, Op.binOp BinOp.lss 3 (Operand.tmp 19) (Operand.tmp 23) 3, _, _, _, _⟩) (v := ?v61) rfl (by kernel_rfl) (by kernel_rfl) (by kernel_rfl) (fun _ _ _ h => h) (Or.inl ⟨by rfl, ?hy61⟩) (by assumption) ?rest61
      case hy61 => ((intro w0 hSw; (try dsimp only at hSw); obtain ⟨hs0, hs1, hs2, hs3, hsr⟩ := hSw; have hl0 := hld2 _ hsr; go_simp); try (with_reducible rfl))
      try simp only [Act.put, List.setIfInBounds_toArray, List.set_cons_zero, List.set_cons_succ]
      refine wpAnyH_take (i := 20) (oi := ⟨some 25, Op.pick (Operand.tmp 17) (Operand.tmp 24) (Operand.const (Value.bool false)), _, _, _, _⟩) (v := ?v62) rfl (by kernel_rfl) (by kernel_rfl) (by kernel_rfl) (fun _ _ _ h => h) (Or.inl ⟨by rfl, ?hy62⟩) (by assumption) ?rest62
      case hy62 => ((intro w0 hSw; (try dsimp only at hSw); obtain ⟨hs0, hs1, hs2, hs3, hsr⟩ := hSw; have hl0 := hld2 _ hsr; go_simp); try (with_reducible rfl))
      try simp only [Act.put, List.setIfInBounds_toArray, List.set_cons_zero, List.set_cons_succ]
      refine wpAnyH_take (i := 21) (oi := ⟨some 4, Op.assign (Operand.tmp 25), _, _, _, _⟩) (v := ?v63) rfl (by kernel_rfl) (by kernel_rfl) (by kernel_rfl) (fun _ _ _ h => h) (Or.inl ⟨by rfl, ?hy63⟩) (by assumption) ?rest63
      case hy63 => ((intro w0 hSw; (try dsimp only at hSw); obtain ⟨hs0, hs1, hs2, hs3, hsr⟩ := hSw; have hl0 := hld2 _ hsr; go_simp); try (with_reducible rfl))
      try simp only [Act.put, List.setIfInBounds_toArray, List.set_cons_zero, List.set_cons_succ]
      refine wpAnyH_done (by kernel_rfl) ?_ _
      go_wp2_with fail
      go_ret
      exact ⟨by simp, grown_trans HG0.out (grown_trans (grown_drew (grown_refl _ _)) HG1.out)⟩
    · have e1 : (n.t == P.core) = false := by simp [ht]
      rw [decide_eq_false ht]
      clear h hg0 hb0 hld hsz hst hfit ho hy ht
      go_enter Tryz.func56, Tryz.ntmps56
      go_upto_region 1 with fail
      rw [HT.out.1]
      refine wp_region_held_drew (S := fun W => W.cell? ⟨L.q, 0, none⟩ = some (.int .i64 P.core) ∧ W.cell? ⟨L.q, 1, none⟩ = some (.int .i64 (P.N : Int)) ∧ W.cell? ⟨w.heap.size, 2, none⟩ = some (.int .i64 n.t) ∧ W.cell? ⟨w.heap.size, 3, none⟩ = some (.int .i64 n.b) ∧ W.rangeAt w.heap.size 0 (nt n)) (by kernel_rfl) HC0.out (fun hHeld => ?_)
      refine wpAnyH_take (i := 0) (oi := ⟨some 5, Op.load t (Operand.tmp 3), _, _, _, _⟩) (v := ?v22) rfl (by kernel_rfl) (by kernel_rfl) (by kernel_rfl) (fun _ _ _ h => h) (Or.inl ⟨by rfl, ?hy22⟩) (by assumption) ?rest22
      case hy22 => ((intro w0 hSw; (try dsimp only at hSw); obtain ⟨hs0, hs1, hs2, hs3, hsr⟩ := hSw; have hl0 := hld2 _ hsr; go_simp); try (with_reducible rfl))
      try simp only [Act.put, List.setIfInBounds_toArray, List.set_cons_zero, List.set_cons_succ]
      refine wpAnyH_ready (rs := [1]) (by kernel_rfl) (by simp) ?_
      refine AllReadyH.cons (o := ⟨some 6, Op.call { callee := Callee.value (Operand.func 95), args := #[(Operand.tmp 5)], argTypes := #[37] }, _, _, _, _⟩) rfl (fun K hK => ?_) AllReadyH.nil
      go_simp
      go_at_call 95; ((with_reducible refine HM.out.mono ?_); rintro e w1 ⟨rfl, hg1⟩; have HG1 := Lib.hid hg1; have HC1 := Lib.hid (HS.out w1 (grown_trans (grown_drew (grown_refl _ _)) hg1)); clear hg1)
      go_wp2_with fail
      refine hK.out _ _ HC1.out (fun hHeld1 => ?_)
      clear hK K
      try simp only [Act.put, List.setIfInBounds_toArray, List.set_cons_zero, List.set_cons_succ]
      refine wpAnyH_take (i := 2) (oi := ⟨some 7, Op.binOp BinOp.eql _ (Operand.tmp 6) (Operand.const (Value.int IntKind.i64 0)) _, _, _, _, _⟩) (v := ?v23) rfl (by kernel_rfl) (by kernel_rfl) (by kernel_rfl) (fun _ _ _ h => h) (Or.inl ⟨by rfl, ?hy23⟩) (by assumption) ?rest23
      case hy23 => ((intro w0 hSw; (try dsimp only at hSw); obtain ⟨hs0, hs1, hs2, hs3, hsr⟩ := hSw; have hl0 := hld2 _ hsr; go_simp); try (with_reducible rfl))
      try simp only [Act.put, List.setIfInBounds_toArray, List.set_cons_zero, List.set_cons_succ]
      refine wpAnyH_take (i := 3) (oi := ⟨some 8, Op.move (Operand.tmp 7), _, _, _, _⟩) (v := ?v24) rfl (by kernel_rfl) (by kernel_rfl) (by kernel_rfl) (fun _ _ _ h => h) (Or.inl ⟨by rfl, ?hy24⟩) (by assumption) ?rest24
      case hy24 => ((intro w0 hSw; (try dsimp only at hSw); obtain ⟨hs0, hs1, hs2, hs3, hsr⟩ := hSw; have hl0 := hld2 _ hsr; go_simp); try (with_reducible rfl))
      try simp only [Act.put, List.setIfInBounds_toArray, List.set_cons_zero, List.set_cons_succ]
      refine wpAnyH_take (i := 4) (oi := ⟨some 9, Op.fieldAddr 37 (Operand.tmp 3) 2, _, _, _, _⟩) (v := ?v25) rfl (by kernel_rfl) (by kernel_rfl) (by kernel_rfl) (fun _ _ _ h => h) (Or.inl ⟨by rfl, ?hy25⟩) (by assumption) ?rest25
      case hy25 => ((intro w0 hSw; (try dsimp only at hSw); obtain ⟨hs0, hs1, hs2, hs3, hsr⟩ := hSw; have hl0 := hld2 _ hsr; go_simp); try (with_reducible rfl))
      try simp only [Act.put, List.setIfInBounds_toArray, List.set_cons_zero, List.set_cons_succ]
      refine wpAnyH_take (i := 5) (oi := ⟨some 10, Op.load 3 (Operand.tmp 9), _, _, _, _⟩) (v := ?v26) rfl (by kernel_rfl) (by kernel_rfl) (by kernel_rfl) (fun _ _ _ h => h) (Or.inl ⟨by rfl, ?hy26⟩) (by assumption) ?rest26
      case hy26 => ((intro w0 hSw; (try dsimp only at hSw); obtain ⟨hs0, hs1, hs2, hs3, hsr⟩ := hSw; have hl0 := hld2 _ hsr; go_simp); try (with_reducible rfl))
      try simp only [Act.put, List.setIfInBounds_toArray, List.set_cons_zero, List.set_cons_succ]
      refine wpAnyH_take (i := 6) (oi := ⟨some 11, Op.move (Operand.tmp 0), _, _, _, _⟩) (v := ?v27) rfl (by kernel_rfl) (by kernel_rfl) (by kernel_rfl) (fun _ _ _ h => h) (Or.inl ⟨by rfl, ?hy27⟩) (by assumption) ?rest27
      case hy27 => ((intro w0 hSw; (try dsimp only at hSw); obtain ⟨hs0, hs1, hs2, hs3, hsr⟩ := hSw; have hl0 := hld2 _ hsr; go_simp); try (with_reducible rfl))
      try simp only [Act.put, List.setIfInBounds_toArray, List.set_cons_zero, List.set_cons_succ]
      refine wpAnyH_take (i := 7) (oi := ⟨some 12, Op.nilCheck (Operand.tmp 11), _, _, _, _⟩) (v := ?v28) rfl (by kernel_rfl) (by kernel_rfl) (by kernel_rfl) (fun _ _ _ h => h) (Or.inl ⟨by rfl, ?hy28⟩) (by assumption) ?rest28
      case hy28 => ((intro w0 hSw; (try dsimp only at hSw); obtain ⟨hs0, hs1, hs2, hs3, hsr⟩ := hSw; have hl0 := hld2 _ hsr; go_simp); try (with_reducible rfl))
      try simp only [Act.put, List.setIfInBounds_toArray, List.set_cons_zero, List.set_cons_succ]
      refine wpAnyH_take (i := 8) (oi := ⟨some 13, Op.fieldAddr 96 (Operand.tmp 12) 0, _, _, _, _⟩) (v := ?v29) rfl (by kernel_rfl) (by kernel_rfl) (by kernel_rfl) (fun _ _ _ h => h) (Or.inl ⟨by rfl, ?hy29⟩) (by assumption) ?rest29
      case hy29 => ((intro w0 hSw; (try dsimp only at hSw); obtain ⟨hs0, hs1, hs2, hs3, hsr⟩ := hSw; have hl0 := hld2 _ hsr; go_simp); try (with_reducible rfl))
      try simp only [Act.put, List.setIfInBounds_toArray, List.set_cons_zero, List.set_cons_succ]
      refine wpAnyH_take (i := 9) (oi := ⟨some 14, Op.load 3 (Operand.tmp 13), _, _, _, _⟩) (v := ?v30) rfl (by kernel_rfl) (by kernel_rfl) (by kernel_rfl) (fun _ _ _ h => h) (Or.inl ⟨by rfl, ?hy30⟩) (by assumption) ?rest30
      case hy30 => ((intro w0 hSw; (try dsimp only at hSw); obtain ⟨hs0, hs1, hs2, hs3, hsr⟩ := hSw; have hl0 := hld2 _ hsr; go_simp); try (with_reducible rfl))
      try simp only [Act.put, List.setIfInBounds_toArray, List.set_cons_zero, List.set_cons_succ]
      refine wpAnyH_take (i := 10) (oi := ⟨some 15, Op.binOp BinOp.eql 3 (Operand.tmp 10) (Operand.tmp 14) 3, _, _, _, _⟩) (v := ?v31) rfl (by kernel_rfl) (by kernel_rfl) (by kernel_rfl) (fun _ _ _ h => h) (Or.inl ⟨by rfl, ?hy31⟩) (by assumption) ?rest31
      case hy31 => ((intro w0 hSw; (try dsimp only at hSw); obtain ⟨hs0, hs1, hs2, hs3, hsr⟩ := hSw; have hl0 := hld2 _ hsr; go_simp); try (with_reducible rfl))
      try simp only [Act.put, List.setIfInBounds_toArray, List.set_cons_zero, List.set_cons_succ]
      refine wpAnyH_take (i := 11) (oi := ⟨some 16, Op.pick (Operand.tmp 8) (Operand.tmp 15) (Operand.const (Value.bool false)), _, _, _, _⟩) (v := ?v32) rfl (by kernel_rfl) (by kernel_rfl) (by kernel_rfl) (fun _ _ _ h => h) (Or.inl ⟨by rfl, ?hy32⟩) (by assumption) ?rest32
      case hy32 => ((intro w0 hSw; (try dsimp only at hSw); obtain ⟨hs0, hs1, hs2, hs3, hsr⟩ := hSw; have hl0 := hld2 _ hsr; go_simp); try (with_reducible rfl))
      try simp only [Act.put, List.setIfInBounds_toArray, List.set_cons_zero, List.set_cons_succ]
      refine wpAnyH_take (i := 12) (oi := ⟨some 17, Op.move (Operand.tmp 16), _, _, _, _⟩) (v := ?v33) rfl (by kernel_rfl) (by kernel_rfl) (by kernel_rfl) (fun _ _ _ h => h) (Or.inl ⟨by rfl, ?hy33⟩) (by assumption) ?rest33
      case hy33 => ((intro w0 hSw; (try dsimp only at hSw); obtain ⟨hs0, hs1, hs2, hs3, hsr⟩ := hSw; have hl0 := hld2 _ hsr; go_simp); try (with_reducible rfl))
      try simp only [Act.put, List.setIfInBounds_toArray, List.set_cons_zero, List.set_cons_succ]
      refine wpAnyH_take (i := 13) (oi := ⟨some 18, Op.fieldAddr 37 (Operand.tmp 3) 3, _, _, _, _⟩) (v := undef) rfl (by kernel_rfl) (by kernel_rfl) (by kernel_rfl) (fun _ _ _ h => h) (Or.inr ⟨by rfl, rfl⟩) (by assumption) ?rest34
      try simp only [Act.put, List.setIfInBounds_toArray, List.set_cons_zero, List.set_cons_succ]
      refine wpAnyH_take (i := 14) (oi := ⟨some 19, Op.load 3 (Operand.tmp 18), _, _, _, _⟩) (v := undef) rfl (by kernel_rfl) (by kernel_rfl) (by kernel_rfl) (fun _ _ _ h => h) (Or.inr ⟨by rfl, rfl⟩) (by assumption) ?rest35
      try simp only [Act.put, List.setIfInBounds_toArray, List.set_cons_zero, List.set_cons_succ]
      refine wpAnyH_take (i := 15) (oi := ⟨some 20, Op.move (Operand.tmp 0), _, _, _, _⟩) (v := undef) rfl (by kernel_rfl) (by kernel_rfl) (by kernel_rfl) (fun _ _ _ h => h) (Or.inr ⟨by rfl, rfl⟩) (by assumption) ?rest36
      try simp only [Act.put, List.setIfInBounds_toArray, List.set_cons_zero, List.set_cons_succ]
      refine wpAnyH_take (i := 16) (oi := ⟨some 21, Op.nilCheck (Operand.tmp 20), _, _, _, _⟩) (v := undef) rfl (by kernel_rfl) (by kernel_rfl) (by kernel_rfl) (fun _ _ _ h => h) (Or.inr ⟨by rfl, rfl⟩) (by assumption) ?rest37
      try simp only [Act.put, List.setIfInBounds_toArray, List.set_cons_zero, List.set_cons_succ]
      refine wpAnyH_take (i := 17) (oi := ⟨some 22, Op.fieldAddr 96 (Operand.tmp 21) 1, _, _, _, _⟩) (v := undef) rfl (by kernel_rfl) (by kernel_rfl) (by kernel_rfl) (fun _ _ _ h => h) (Or.inr ⟨by rfl, rfl⟩) (by assumption) ?rest38
      try simp only [Act.put, List.setIfInBounds_toArray, List.set_cons_zero, List.set_cons_succ]
      refine wpAnyH_take (i := 18) (oi := ⟨some 23, Op.load 3 (Operand.tmp 22), _, _, _, _⟩) (v := undef) rfl (by kernel_rfl) (by kernel_rfl) (by kernel_rfl) (fun _ _ _ h => h) (Or.inr ⟨by rfl, rfl⟩) (by assumption) ?rest39
      try simp only [Act.put, List.setIfInBounds_toArray, List.set_cons_zero, List.set_cons_succ]
      refine wpAnyH_take (i := 19) (oi := ⟨some 24, Op.binOp BinOp.lss 3 (Operand.tmp 19) (Operand.tmp 23) 3, _, _, _, _⟩) (v := undef) rfl (by kernel_rfl) (by kernel_rfl) (by kernel_rfl) (fun _ _ _ h => h) (Or.inr ⟨by rfl, rfl⟩) (by assumption) ?rest40
      try simp only [Act.put, List.setIfInBounds_toArray, List.set_cons_zero, List.set_cons_succ]
      refine wpAnyH_take (i := 20) (oi := ⟨some 25, Op.pick (Operand.tmp 17) (Operand.tmp 24) (Operand.const (Value.bool false)), _, _, _, _⟩) (v := ?v41) rfl (by kernel_rfl) (by kernel_rfl) (by kernel_rfl) (fun _ _ _ h => h) (Or.inl ⟨by rfl, ?hy41⟩) (by assumption) ?rest41
      case hy41 => ((intro w0 hSw; (try dsimp only at hSw); obtain ⟨hs0, hs1, hs2, hs3, hsr⟩ := hSw; have hl0 := hld2 _ hsr; go_simp); try (with_reducible rfl))
      try simp only [Act.put, List.setIfInBounds_toArray, List.set_cons_zero, List.set_cons_succ]
      refine wpAnyH_take (i := 21) (oi := ⟨some 4, Op.assign (Operand.tmp 25), _, _, _, _⟩) (v := ?v42) rfl (by kernel_rfl) (by kernel_rfl) (by kernel_rfl) (fun _ _ _ h => h) (Or.inl ⟨by rfl, ?hy42⟩) (by assumption) ?rest42
      case hy42 => ((intro w0 hSw; (try dsimp only at hSw); obtain ⟨hs0, hs1, hs2, hs3, hsr⟩ := hSw; have hl0 := hld2 _ hsr; go_simp); try (with_reducible rfl))
      try simp only [Act.put, List.setIfInBounds_toArray, List.set_cons_zero, List.set_cons_succ]
      refine wpAnyH_done (by kernel_rfl) ?_ _
      go_wp2_with fail
      go_ret
      exact ⟨by simp, grown_trans HG0.out (grown_trans (grown_drew (grown_refl _ _)) HG1.out)⟩
  · have hy : yes n.ok = 2 := by simp [yes, ho]
    rw [hy] at HM
    rw [decide_eq_false ho]
    clear h hg0 hb0 hld hsz hst hfit ho hy
    go_enter Tryz.func56, Tryz.ntmps56
    go_upto_region 1 with fail
    rw [HT.out.1]
    refine wp_region_held_drew (S := fun W => W.cell? ⟨L.q, 0, none⟩ = some (.int .i64 P.core) ∧ W.cell? ⟨L.q, 1, none⟩ = some (.int .i64 (P.N : Int)) ∧ W.cell? ⟨w.heap.size, 2, none⟩ = some (.int .i64 n.t) ∧ W.cell? ⟨w.heap.size, 3, none⟩ = some (.int .i64 n.b) ∧ W.rangeAt w.heap.size 0 (nt n)) (by kernel_rfl) HC0.out (fun hHeld => ?_)
    refine wpAnyH_take (i := 0) (oi := ⟨some 5, Op.load t (Operand.tmp 3), _, _, _, _⟩) (v := ?v1) rfl (by kernel_rfl) (by kernel_rfl) (by kernel_rfl) (fun _ _ _ h => h) (Or.inl ⟨by rfl, ?hy1⟩) (by assumption) ?rest1
    case hy1 => ((intro w0 hSw; (try dsimp only at hSw); obtain ⟨hs0, hs1, hs2, hs3, hsr⟩ := hSw; have hl0 := hld2 _ hsr; go_simp); try (with_reducible rfl))
    try simp only [Act.put, List.setIfInBounds_toArray, List.set_cons_zero, List.set_cons_succ]
    refine wpAnyH_ready (rs := [1]) (by kernel_rfl) (by simp) ?_
    refine AllReadyH.cons (o := ⟨some 6, Op.call { callee := Callee.value (Operand.func 95), args := #[(Operand.tmp 5)], argTypes := #[37] }, _, _, _, _⟩) rfl (fun K hK => ?_) AllReadyH.nil
    go_simp
    go_at_call 95; ((with_reducible refine HM.out.mono ?_); rintro e w1 ⟨rfl, hg1⟩; have HG1 := Lib.hid hg1; have HC1 := Lib.hid (HS.out w1 (grown_trans (grown_drew (grown_refl _ _)) hg1)); clear hg1)
    go_wp2_with fail
    refine hK.out _ _ HC1.out (fun hHeld1 => ?_)
    clear hK K
    try simp only [Act.put, List.setIfInBounds_toArray, List.set_cons_zero, List.set_cons_succ]
    refine wpAnyH_take (i := 2) (oi := ⟨some 7, Op.binOp BinOp.eql _ (Operand.tmp 6) (Operand.const (Value.int IntKind.i64 0)) _, _, _, _, _⟩) (v := ?v2) rfl (by kernel_rfl) (by kernel_rfl) (by kernel_rfl) (fun _ _ _ h => h) (Or.inl ⟨by rfl, ?hy2⟩) (by assumption) ?rest2
    case hy2 => ((intro w0 hSw; (try dsimp only at hSw); obtain ⟨hs0, hs1, hs2, hs3, hsr⟩ := hSw; have hl0 := hld2 _ hsr; go_simp); try (with_reducible rfl))
    try simp only [Act.put, List.setIfInBounds_toArray, List.set_cons_zero, List.set_cons_succ]
    refine wpAnyH_take (i := 3) (oi := ⟨some 8, Op.move (Operand.tmp 7), _, _, _, _⟩) (v := ?v3) rfl (by kernel_rfl) (by kernel_rfl) (by kernel_rfl) (fun _ _ _ h => h) (Or.inl ⟨by rfl, ?hy3⟩) (by assumption) ?rest3
    case hy3 => ((intro w0 hSw; (try dsimp only at hSw); obtain ⟨hs0, hs1, hs2, hs3, hsr⟩ := hSw; have hl0 := hld2 _ hsr; go_simp); try (with_reducible rfl))
    try simp only [Act.put, List.setIfInBounds_toArray, List.set_cons_zero, List.set_cons_succ]
    refine wpAnyH_take (i := 4) (oi := ⟨some 9, Op.fieldAddr 37 (Operand.tmp 3) 2, _, _, _, _⟩) (v := undef) rfl (by kernel_rfl) (by kernel_rfl) (by kernel_rfl) (fun _ _ _ h => h) (Or.inr ⟨by rfl, rfl⟩) (by assumption) ?rest4
    try simp only [Act.put, List.setIfInBounds_toArray, List.set_cons_zero, List.set_cons_succ]
    refine wpAnyH_take (i := 5) (oi := ⟨some 10, Op.load 3 (Operand.tmp 9), _, _, _, _⟩) (v := undef) rfl (by kernel_rfl) (by kernel_rfl) (by kernel_rfl) (fun _ _ _ h => h) (Or.inr ⟨by rfl, rfl⟩) (by assumption) ?rest5
    try simp only [Act.put, List.setIfInBounds_toArray, List.set_cons_zero, List.set_cons_succ]
    refine wpAnyH_take (i := 6) (oi := ⟨some 11, Op.move (Operand.tmp 0), _, _, _, _⟩) (v := undef) rfl (by kernel_rfl) (by kernel_rfl) (by kernel_rfl) (fun _ _ _ h => h) (Or.inr ⟨by rfl, rfl⟩) (by assumption) ?rest6
    try simp only [Act.put, List.setIfInBounds_toArray, List.set_cons_zero, List.set_cons_succ]
    refine wpAnyH_take (i := 7) (oi := ⟨some 12, Op.nilCheck (Operand.tmp 11), _, _, _, _⟩) (v := undef) rfl (by kernel_rfl) (by kernel_rfl) (by kernel_rfl) (fun _ _ _ h => h) (Or.inr ⟨by rfl, rfl⟩) (by assumption) ?rest7
    try simp only [Act.put, List.setIfInBounds_toArray, List.set_cons_zero, List.set_cons_succ]
    refine wpAnyH_take (i := 8) (oi := ⟨some 13, Op.fieldAddr 96 (Operand.tmp 12) 0, _, _, _, _⟩) (v := undef) rfl (by kernel_rfl) (by kernel_rfl) (by kernel_rfl) (fun _ _ _ h => h) (Or.inr ⟨by rfl, rfl⟩) (by assumption) ?rest8
    try simp only [Act.put, List.setIfInBounds_toArray, List.set_cons_zero, List.set_cons_succ]
    refine wpAnyH_take (i := 9) (oi := ⟨some 14, Op.load 3 (Operand.tmp 13), _, _, _, _⟩) (v := undef) rfl (by kernel_rfl) (by kernel_rfl) (by kernel_rfl) (fun _ _ _ h => h) (Or.inr ⟨by rfl, rfl⟩) (by assumption) ?rest9
    try simp only [Act.put, List.setIfInBounds_toArray, List.set_cons_zero, List.set_cons_succ]
    refine wpAnyH_take (i := 10) (oi := ⟨some 15, Op.binOp BinOp.eql 3 (Operand.tmp 10) (Operand.tmp 14) 3, _, _, _, _⟩) (v := undef) rfl (by kernel_rfl) (by kernel_rfl) (by kernel_rfl) (fun _ _ _ h => h) (Or.inr ⟨by rfl, rfl⟩) (by assumption) ?rest10
    try simp only [Act.put, List.setIfInBounds_toArray, List.set_cons_zero, List.set_cons_succ]
    refine wpAnyH_take (i := 11) (oi := ⟨some 16, Op.pick (Operand.tmp 8) (Operand.tmp 15) (Operand.const (Value.bool false)), _, _, _, _⟩) (v := ?v11) rfl (by kernel_rfl) (by kernel_rfl) (by kernel_rfl) (fun _ _ _ h => h) (Or.inl ⟨by rfl, ?hy11⟩) (by assumption) ?rest11
    case hy11 => ((intro w0 hSw; (try dsimp only at hSw); obtain ⟨hs0, hs1, hs2, hs3, hsr⟩ := hSw; have hl0 := hld2 _ hsr; go_simp); try (with_reducible rfl))
    try simp only [Act.put, List.setIfInBounds_toArray, List.set_cons_zero, List.set_cons_succ]
    refine wpAnyH_take (i := 12) (oi := ⟨some 17, Op.move (Operand.tmp 16), _, _, _, _⟩) (v := ?v12) rfl (by kernel_rfl) (by kernel_rfl) (by kernel_rfl) (fun _ _ _ h => h) (Or.inl ⟨by rfl, ?hy12⟩) (by assumption) ?rest12
    case hy12 => ((intro w0 hSw; (try dsimp only at hSw); obtain ⟨hs0, hs1, hs2, hs3, hsr⟩ := hSw; have hl0 := hld2 _ hsr; go_simp); try (with_reducible rfl))
    try simp only [Act.put, List.setIfInBounds_toArray, List.set_cons_zero, List.set_cons_succ]
    refine wpAnyH_take (i := 13) (oi := ⟨some 18, Op.fieldAddr 37 (Operand.tmp 3) 3, _, _, _, _⟩) (v := undef) rfl (by kernel_rfl) (by kernel_rfl) (by kernel_rfl) (fun _ _ _ h => h) (Or.inr ⟨by rfl, rfl⟩) (by assumption) ?rest13
    try simp only [Act.put, List.setIfInBounds_toArray, List.set_cons_zero, List.set_cons_succ]
    refine wpAnyH_take (i := 14) (oi := ⟨some 19, Op.load 3 (Operand.tmp 18), _, _, _, _⟩) (v := undef) rfl (by kernel_rfl) (by kernel_rfl) (by kernel_rfl) (fun _ _ _ h => h) (Or.inr ⟨by rfl, rfl⟩) (by assumption) ?rest14
    try simp only [Act.put, List.setIfInBounds_toArray, List.set_cons_zero, List.set_cons_succ]
    refine wpAnyH_take (i := 15) (oi := ⟨some 20, Op.move (Operand.tmp 0), _, _, _, _⟩) (v := undef) rfl (by kernel_rfl) (by kernel_rfl) (by kernel_rfl) (fun _ _ _ h => h) (Or.inr ⟨by rfl, rfl⟩) (by assumption) ?rest15
    try simp only [Act.put, List.setIfInBounds_toArray, List.set_cons_zero, List.set_cons_succ]
    refine wpAnyH_take (i := 16) (oi := ⟨some 21, Op.nilCheck (Operand.tmp 20), _, _, _, _⟩) (v := undef) rfl (by kernel_rfl) (by kernel_rfl) (by kernel_rfl) (fun _ _ _ h => h) (Or.inr ⟨by rfl, rfl⟩) (by assumption) ?rest16
    try simp only [Act.put, List.setIfInBounds_toArray, List.set_cons_zero, List.set_cons_succ]
    refine wpAnyH_take (i := 17) (oi := ⟨some 22, Op.fieldAddr 96 (Operand.tmp 21) 1, _, _, _, _⟩) (v := undef) rfl (by kernel_rfl) (by kernel_rfl) (by kernel_rfl) (fun _ _ _ h => h) (Or.inr ⟨by rfl, rfl⟩) (by assumption) ?rest17
    try simp only [Act.put, List.setIfInBounds_toArray, List.set_cons_zero, List.set_cons_succ]
    refine wpAnyH_take (i := 18) (oi := ⟨some 23, Op.load 3 (Operand.tmp 22), _, _, _, _⟩) (v := undef) rfl (by kernel_rfl) (by kernel_rfl) (by kernel_rfl) (fun _ _ _ h => h) (Or.inr ⟨by rfl, rfl⟩) (by assumption) ?rest18
    try simp only [Act.put, List.setIfInBounds_toArray, List.set_cons_zero, List.set_cons_succ]
    refine wpAnyH_take (i := 19) (oi := ⟨some 24, Op.binOp BinOp.lss 3 (Operand.tmp 19) (Operand.tmp 23) 3, _, _, _, _⟩) (v := undef) rfl (by kernel_rfl) (by kernel_rfl) (by kernel_rfl) (fun _ _ _ h => h) (Or.inr ⟨by rfl, rfl⟩) (by assumption) ?rest19
    try simp only [Act.put, List.setIfInBounds_toArray, List.set_cons_zero, List.set_cons_succ]
    refine wpAnyH_take (i := 20) (oi := ⟨some 25, Op.pick (Operand.tmp 17) (Operand.tmp 24) (Operand.const (Value.bool false)), _, _, _, _⟩) (v := ?v20) rfl (by kernel_rfl) (by kernel_rfl) (by kernel_rfl) (fun _ _ _ h => h) (Or.inl ⟨by rfl, ?hy20⟩) (by assumption) ?rest20
    case hy20 => ((intro w0 hSw; (try dsimp only at hSw); obtain ⟨hs0, hs1, hs2, hs3, hsr⟩ := hSw; have hl0 := hld2 _ hsr; go_simp); try (with_reducible rfl))
    try simp only [Act.put, List.setIfInBounds_toArray, List.set_cons_zero, List.set_cons_succ]
    refine wpAnyH_take (i := 21) (oi := ⟨some 4, Op.assign (Operand.tmp 25), _, _, _, _⟩) (v := ?v21) rfl (by kernel_rfl) (by kernel_rfl) (by kernel_rfl) (fun _ _ _ h => h) (Or.inl ⟨by rfl, ?hy21⟩) (by assumption) ?rest21
    case hy21 => ((intro w0 hSw; (try dsimp only at hSw); obtain ⟨hs0, hs1, hs2, hs3, hsr⟩ := hSw; have hl0 := hld2 _ hsr; go_simp); try (with_reducible rfl))
    try simp only [Act.put, List.setIfInBounds_toArray, List.set_cons_zero, List.set_cons_succ]
    refine wpAnyH_done (by kernel_rfl) ?_ _
    go_wp2_with fail
    go_ret
    exact ⟨by simp, grown_trans HG0.out (grown_trans (grown_drew (grown_refl _ _)) HG1.out)⟩
end
end Go.Proofs.YtinogiidiommkaaGreatDoor.nl
