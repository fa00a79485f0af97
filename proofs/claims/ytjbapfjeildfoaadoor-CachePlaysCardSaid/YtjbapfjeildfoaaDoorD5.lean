/-
  What the document's own Goes answers of a set that is full: a contract. Condition: that a line stands in its block's set alone.
-/
import Derived.Test.YtjbapfjeildfoaaDoorD4
namespace Go.Proofs.YtjbapfjeildfoaaDoor.kk
open Go Go.ChangeShapes Go.WideShapes Go.ChangeAt Go.RowKit Go.Shelf
set_option linter.unusedVariables false

theorem wrap_two (s n v sn : Nat) (h : sn ≤ 64) (hs : (s : Int) * (n : Int) = (sn : Int)) (hv : v ≤ 64) : IntKind.i64.wrap ((s : Int) * (n : Int)) = (sn : Int) ∧ IntKind.i64.wrap ((sn : Int) + (v : Int)) = (sn : Int) + (v : Int) := by
  rw [hs]; exact ⟨IntWalk.i64_in _ (by omega), IntWalk.i64_in _ (by omega)⟩
theorem kept5 {w1 : World} {b o o' g B o2 : Nat} {v v' : Value} {l l' : Ln} (c1 : w1.cell? ⟨b, o, none⟩ = some v) (c2 : w1.cell? ⟨b, o', none⟩ = some v') (hr : w1.rangeAt g o2 (ln l)) (ht : w1.there B 0 18) (h1 : b ≠ B) (h2 : g ≠ B) :
    (w1.drew.setCells B 0 (ln l')).cell? ⟨b, o, none⟩ = some v ∧ (w1.drew.setCells B 0 (ln l')).cell? ⟨b, o', none⟩ = some v' ∧ (w1.drew.setCells B 0 (ln l')).rangeAt g o2 (ln l) ∧ (w1.drew.setCells B 0 (ln l')).there B 0 18 :=
  ⟨(World.cell?_of_block (w := w1) (heap_setCells_other B b h1 _ _ _)).trans c1, (World.cell?_of_block (w := w1) (heap_setCells_other B b h1 _ _ _)).trans c2, range_same hr (heap_setCells_other B g h2 _ _ _), World.there_setCells (w := w1.drew) (show w1.drew.there B 0 18 from ht) _ _ _⟩
section
variable (R : RLoc) (c : Cfg) (ss : List St) (w : World) (hR : Rac w R c ss) (hI : Inv c ss) (b : Int) (hb : 0 ≤ b ∧ b < 256)
include hR hI hb
set_option maxRecDepth 1000000 in
set_option maxHeartbeats 1000000 in
theorem rgoes_some (l : Ln) (hn : (setAt c ss b).1.findIdx? (isOf b) = none) (hf : (setAt c ss b).1.findIdx? isFree = none) (hl : (setAt c ss b).1[vc (setAt c ss b).2 (setAt c ss b).1.length]? = some l) :
    Calls Tryd.prog 41 #[.pointer (some ⟨R.b, 0, none⟩), .int .i64 b] w fun e w' => e = .returned (.tuple #[.agg (la l), .bool true]) ∧ w.grownBy w' none := by
  have hg0 : w.grownBy (w.alloc (.cells (la zl) 36)) none := grown_alloc (grown_refl _ _) _
  have hp := hR.at b
  have hmem := List.mem_of_getElem? hp
  have hwl := hR.wid _ hmem
  have hways := hR.may.ways
  have HN := Lib.hid (rplace_no R c ss _ (hR.grown hg0) hI b hn)
  have HF := Lib.hid (rfree_no R c ss _ (hR.grown hg0) b hf)
  have HO : Hid (∀ w1, (w.alloc (.cells (la zl) 36)).grownBy w1 none → _) := Lib.hid fun w1 hg => own_after hg
  have HC : Hid (∀ w1, (w.alloc (.cells (la zl) 36)).grownBy w1 none → CfgAt w1 R.b c) := Lib.hid fun w1 hg => (hR.grown (grown_trans hg0 hg)).cfg
  have HS : Hid (∀ w1, _) := Lib.hid (fun w1 => rset_any c b w1 hR.may)
  have hg := Rac.good R c ss w hR hmem
  have HV : Hid (∀ w1, _) := Lib.hid (fun w1 => rvictim_in (setAt c ss b).2 (setAt c ss b).1.length w1 (hR.mlt _ hmem) hg)
  have HU : Hid (∀ w1, (w.alloc (.cells (la zl) 36)).grownBy w1 none → Us3 w1 R.b R.gm ss.length (setOf c b) (setAt c ss b).2 (setAt c ss b).1.length) := Lib.hid fun w1 h => by
    have h' := hR.grown (grown_trans hg0 h)
    have := h'.cfg.c2
    rw [show c.wa = ((setAt c ss b).1.length : Int) by omega] at this
    exact ⟨h'.mems, h'.mem _ _ hp, this⟩
  have hv : vc (setAt c ss b).2 (setAt c ss b).1.length < (setAt c ss b).1.length := (List.getElem?_eq_some_iff.1 hl).1
  have hfl := rowAll_get hR.wid hp hl
  rw [← hwl] at hfl
  have hin := (List.getElem?_eq_some_iff.1 hfl).1
  have HX : Hid (∀ w1, (w.alloc (.cells (la zl) 36)).grownBy w1 none → w1.cell? ⟨R.b, 8, none⟩ = some (.slice (some ⟨R.gl, 0, none⟩) (rowAll ss).length (rowAll ss).length) ∧ w1.cell? ⟨R.b, 2, none⟩ = some (.int .i64 ((setAt c ss b).1.length : Int)) ∧ w1.rangeAt R.gl ((setOf c b * (setAt c ss b).1.length + vc (setAt c ss b).2 (setAt c ss b).1.length) * 18) (ln l) ∧ w1.there w.heap.size 0 18) := Lib.hid fun w1 h =>
    ⟨(hR.grown (grown_trans hg0 h)).lines, (HU.out w1 h).2.2, (hR.grown (grown_trans hg0 h)).row.at_ _ l hfl, there_of (box_grown h)⟩
  have hs16 : setOf c b < 16 := by have := hR.may.set_lt b; have := hR.may.sets; omega
  have hsS : setOf c b < ss.length := (List.getElem?_eq_some_iff.1 hp).1
  have hN1 : R.b ≠ w.heap.size := by have := hR.lt (.inl rfl); omega
  have hN2 : R.gl ≠ w.heap.size := by have := hR.row.lt; omega
  have hn4 : (setAt c ss b).1.length ≤ 4 := by omega
  have hn64 := hR.n64
  have HZ : Hid (la zl = _) := Lib.hid zl_la
  rw [HZ.out] at HO HN HF HC HU HX
  generalize vc (setAt c ss b).2 (setAt c ss b).1.length = v at *
  generalize (setAt c ss b).1.length = n at *
  generalize (setAt c ss b).2 = m0 at *
  generalize setOf c b = s at *
  generalize ss.length = S at *
  generalize (rowAll ss).length = N at *
  obtain ⟨sn, hsn⟩ : ∃ sn, sn = s * n := ⟨_, rfl⟩
  rw [← hsn] at hin HX
  have hsn64 : sn ≤ 64 := by rw [hsn]; exact Nat.mul_le_mul (show s ≤ 16 by omega) hn4
  have hmul0 : (s : Int) * (n : Int) = (sn : Int) := by rw [hsn, Int.natCast_mul]
  have hi0 : 0 ≤ (sn : Int) + (v : Int) := by omega
  have hi1 : (sn : Int) + (v : Int) < (N : Int) := by omega
  have htn : ((sn : Int) + (v : Int)).toNat = sn + v := by omega
  obtain ⟨i, hi⟩ : ∃ i, i = sn + v := ⟨_, rfl⟩
  rw [← hi] at htn HX
  have hs0 : (0 : Int) ≤ (s : Int) := by omega
  have hs1 : (s : Int) < (S : Int) := by omega
  have d0 : decide (b < 0) = false := by simp; omega
  have d1 : decide (255 < b) = false := by simp; omega
  have hwr := wrap_two s n v sn hsn64 hmul0 (by omega)
  have HMU := Lib.hid hwr.1
  have HAD := Lib.hid hwr.2
  clear hwr
  have HQ := Lib.hid (And.intro hi0 (And.intro hi1 htn))
  clear hi0 hi1 htn
  unfold Cfg.cells at HS
  clear hR hI hb hn hf hl hp hmem hwl hways hg hv hfl hin hs16 hsS hn4 hn64 hsn hsn64 hmul0 hi hg0
  go_enter Tryd.func41, Tryd.ntmps41
  go_wp2_with (first
    | (go_at_call 56; ((with_reducible refine HN.out.mono ?_); rintro e w1 ⟨rfl, rfl⟩))
    | (go_at_call 57; ((with_reducible refine HF.out.mono ?_); rintro e w2 ⟨rfl, hg2⟩; have HG2 := Lib.hid hg2; obtain ⟨c0, c1, c2, c3, c4, c5, c6, c7⟩ := HC.out w2 hg2; clear hg2))
    | (go_at_call 59; ((with_reducible refine (HS.out _).mono ?_); rintro e w3 ⟨rfl, hg3⟩; have HG3 := Lib.hid (grown_trans HG2.out hg3); clear hg3 c0 c1 c2 c3 c4 c5 c6 c7)))
  have HU3 := Lib.hid (HU.out _ (grown_drew HG3.out))
  go_region_held3 (fun w' => w'.cell? ⟨R.b, 9, none⟩ = some (.slice (some ⟨R.gm, 0, none⟩) S S) ∧ w'.cell? ⟨R.gm, s, none⟩ = some (.int .u8 (m0 : Int)) ∧ w'.cell? ⟨R.b, 2, none⟩ = some (.int .i64 (n : Int)))
    (first | exact HU3.out | exact Us3.more (by assumption) (by assumption))
    (first | (go_at_call 60; ((with_reducible refine (HV.out _).mono ?_); rintro e w5 ⟨rfl, hg5⟩)))
  have HG5 := Lib.hid (grown_trans (grown_drew HG3.out) hg5)
  clear hg5
  obtain ⟨x8, x2, hr, ht⟩ := HX.out w5 HG5.out
  have HG1 := Lib.hid (HO.out w5 HG5.out)
  go_wp2_with fail
  have HK := Lib.hid (kept5 x8 x2 hr ht hN1 hN2 (l' := l))
  obtain ⟨t, nn, HT, hagg, hsize, hld, hsz, hst⟩ := named2
  have hsz := hsz l
  have hst := hst w.heap.size 0 l
  have hld0 := fun w' h => hld R.gl (i * 18) l w' h
  have hst1 := hst w5.drew ht
  clear hld hst
  rw [HT.out.1, HT.out.2]
  refine wp_region_held_drew (S := fun w' => w'.cell? ⟨R.b, 8, none⟩ = some (.slice (some ⟨R.gl, 0, none⟩) N N) ∧ w'.cell? ⟨R.b, 2, none⟩ = some (.int .i64 (n : Int)) ∧ (loadCellsFrom ⟨R.gl, i * 18, none⟩ 0 nn #[]).run Tryd.prog w' = .ok (la l) w') (by kernel_rfl) ⟨x8, x2, hld0 w5.drew hr⟩ (fun hHeld => ?_)
  refine wpAnyH_take (i := 0) (oi := ⟨some 50, Op.move (Operand.tmp 0), _, _, _, _⟩) (v := ?v1) rfl (by kernel_rfl) (by kernel_rfl) (by kernel_rfl) (fun _ _ _ h => h) (Or.inl ⟨by rfl, ?hy1⟩) (by assumption) ?rest1
  case hy1 => ((intro w0 hSw; (try dsimp only at hSw); obtain ⟨hs1, hs2, hs3⟩ := hSw; go_simp); try (with_reducible rfl))
  try simp only [Act.put, List.setIfInBounds_toArray, List.set_cons_zero, List.set_cons_succ]
  refine wpAnyH_take (i := 1) (oi := ⟨some 51, Op.nilCheck (Operand.tmp 50), _, _, _, _⟩) (v := ?v2) rfl (by kernel_rfl) (by kernel_rfl) (by kernel_rfl) (fun _ _ _ h => h) (Or.inl ⟨by rfl, ?hy2⟩) (by assumption) ?rest2
  case hy2 => ((intro w0 hSw; (try dsimp only at hSw); obtain ⟨hs1, hs2, hs3⟩ := hSw; go_simp); try (with_reducible rfl))
  try simp only [Act.put, List.setIfInBounds_toArray, List.set_cons_zero, List.set_cons_succ]
  refine wpAnyH_take (i := 2) (oi := ⟨some 52, Op.fieldAddr 83 (Operand.tmp 51) 1, _, _, _, _⟩) (v := ?v3) rfl (by kernel_rfl) (by kernel_rfl) (by kernel_rfl) (fun _ _ _ h => h) (Or.inl ⟨by rfl, ?hy3⟩) (by assumption) ?rest3
  case hy3 => ((intro w0 hSw; (try dsimp only at hSw); obtain ⟨hs1, hs2, hs3⟩ := hSw; go_simp); try (with_reducible rfl))
  try simp only [Act.put, List.setIfInBounds_toArray, List.set_cons_zero, List.set_cons_succ]
  refine wpAnyH_take (i := 3) (oi := ⟨some 53, Op.load 53 (Operand.tmp 52), _, _, _, _⟩) (v := ?v4) rfl (by kernel_rfl) (by kernel_rfl) (by kernel_rfl) (fun _ _ _ h => h) (Or.inl ⟨by rfl, ?hy4⟩) (by assumption) ?rest4
  case hy4 => ((intro w0 hSw; (try dsimp only at hSw); obtain ⟨hs1, hs2, hs3⟩ := hSw; go_simp); try (with_reducible rfl))
  try simp only [Act.put, List.setIfInBounds_toArray, List.set_cons_zero, List.set_cons_succ]
  refine wpAnyH_take (i := 4) (oi := ⟨some 54, Op.move (Operand.tmp 6), _, _, _, _⟩) (v := ?v5) rfl (by kernel_rfl) (by kernel_rfl) (by kernel_rfl) (fun _ _ _ h => h) (Or.inl ⟨by rfl, ?hy5⟩) (by assumption) ?rest5
  case hy5 => ((intro w0 hSw; (try dsimp only at hSw); obtain ⟨hs1, hs2, hs3⟩ := hSw; go_simp); try (with_reducible rfl))
  try simp only [Act.put, List.setIfInBounds_toArray, List.set_cons_zero, List.set_cons_succ]
  refine wpAnyH_take (i := 5) (oi := ⟨some 55, Op.move (Operand.tmp 0), _, _, _, _⟩) (v := ?v6) rfl (by kernel_rfl) (by kernel_rfl) (by kernel_rfl) (fun _ _ _ h => h) (Or.inl ⟨by rfl, ?hy6⟩) (by assumption) ?rest6
  case hy6 => ((intro w0 hSw; (try dsimp only at hSw); obtain ⟨hs1, hs2, hs3⟩ := hSw; go_simp); try (with_reducible rfl))
  try simp only [Act.put, List.setIfInBounds_toArray, List.set_cons_zero, List.set_cons_succ]
  refine wpAnyH_take (i := 6) (oi := ⟨some 56, Op.nilCheck (Operand.tmp 55), _, _, _, _⟩) (v := ?v7) rfl (by kernel_rfl) (by kernel_rfl) (by kernel_rfl) (fun _ _ _ h => h) (Or.inl ⟨by rfl, ?hy7⟩) (by assumption) ?rest7
  case hy7 => ((intro w0 hSw; (try dsimp only at hSw); obtain ⟨hs1, hs2, hs3⟩ := hSw; go_simp); try (with_reducible rfl))
  try simp only [Act.put, List.setIfInBounds_toArray, List.set_cons_zero, List.set_cons_succ]
  refine wpAnyH_take (i := 7) (oi := ⟨some 57, Op.fieldAddr 83 (Operand.tmp 56) 0, _, _, _, _⟩) (v := ?v8) rfl (by kernel_rfl) (by kernel_rfl) (by kernel_rfl) (fun _ _ _ h => h) (Or.inl ⟨by rfl, ?hy8⟩) (by assumption) ?rest8
  case hy8 => ((intro w0 hSw; (try dsimp only at hSw); obtain ⟨hs1, hs2, hs3⟩ := hSw; go_simp); try (with_reducible rfl))
  try simp only [Act.put, List.setIfInBounds_toArray, List.set_cons_zero, List.set_cons_succ]
  refine wpAnyH_take (i := 8) (oi := ⟨some 58, Op.fieldAddr 27 (Operand.tmp 57) 2, _, _, _, _⟩) (v := ?v9) rfl (by kernel_rfl) (by kernel_rfl) (by kernel_rfl) (fun _ _ _ h => h) (Or.inl ⟨by rfl, ?hy9⟩) (by assumption) ?rest9
  case hy9 => ((intro w0 hSw; (try dsimp only at hSw); obtain ⟨hs1, hs2, hs3⟩ := hSw; go_simp); try (with_reducible rfl))
  try simp only [Act.put, List.setIfInBounds_toArray, List.set_cons_zero, List.set_cons_succ]
  refine wpAnyH_take (i := 9) (oi := ⟨some 59, Op.load 3 (Operand.tmp 58), _, _, _, _⟩) (v := ?v10) rfl (by kernel_rfl) (by kernel_rfl) (by kernel_rfl) (fun _ _ _ h => h) (Or.inl ⟨by rfl, ?hy10⟩) (by assumption) ?rest10
  case hy10 => ((intro w0 hSw; (try dsimp only at hSw); obtain ⟨hs1, hs2, hs3⟩ := hSw; go_simp); try (with_reducible rfl))
  try simp only [Act.put, List.setIfInBounds_toArray, List.set_cons_zero, List.set_cons_succ]
  refine wpAnyH_take (i := 10) (oi := ⟨some 60, Op.binOp BinOp.mul 3 (Operand.tmp 54) (Operand.tmp 59) 3, _, _, _, _⟩) (v := ?v11) rfl (by kernel_rfl) (by kernel_rfl) (by kernel_rfl) (fun _ _ _ h => h) (Or.inl ⟨by rfl, ?hy11⟩) (by assumption) ?rest11
  case hy11 => ((intro w0 hSw; (try dsimp only at hSw); obtain ⟨hs1, hs2, hs3⟩ := hSw; have hm1 := HMU.out; go_simp); try (with_reducible rfl))
  try simp only [Act.put, List.setIfInBounds_toArray, List.set_cons_zero, List.set_cons_succ]
  refine wpAnyH_take (i := 11) (oi := ⟨some 61, Op.move (Operand.tmp 7), _, _, _, _⟩) (v := ?v12) rfl (by kernel_rfl) (by kernel_rfl) (by kernel_rfl) (fun _ _ _ h => h) (Or.inl ⟨by rfl, ?hy12⟩) (by assumption) ?rest12
  case hy12 => ((intro w0 hSw; (try dsimp only at hSw); obtain ⟨hs1, hs2, hs3⟩ := hSw; go_simp); try (with_reducible rfl))
  try simp only [Act.put, List.setIfInBounds_toArray, List.set_cons_zero, List.set_cons_succ]
  refine wpAnyH_take (i := 12) (oi := ⟨some 62, Op.binOp BinOp.add 3 (Operand.tmp 60) (Operand.tmp 61) 3, _, _, _, _⟩) (v := ?v13) rfl (by kernel_rfl) (by kernel_rfl) (by kernel_rfl) (fun _ _ _ h => h) (Or.inl ⟨by rfl, ?hy13⟩) (by assumption) ?rest13
  case hy13 => ((intro w0 hSw; (try dsimp only at hSw); obtain ⟨hs1, hs2, hs3⟩ := hSw; have ha1 := HAD.out; go_simp); try (with_reducible rfl))
  try simp only [Act.put, List.setIfInBounds_toArray, List.set_cons_zero, List.set_cons_succ]
  refine wpAnyH_take (i := 13) (oi := ⟨some 63, Op.indexAddr 53 (Operand.tmp 53) (Operand.tmp 62), _, _, _, _⟩) (v := ?v14) rfl (by kernel_rfl) (by kernel_rfl) (by kernel_rfl) (fun _ _ _ h => h) (Or.inl ⟨by rfl, ?hy14⟩) (by assumption) ?rest14
  case hy14 => ((intro w0 hSw; (try dsimp only at hSw); obtain ⟨hs1, hs2, hs3⟩ := hSw; have hq1 := HQ.out; have hq2 := hq1.1; have hq3 := hq1.2.1; have hq4 := hq1.2.2; go_simp); try (with_reducible rfl))
  try simp only [Act.put, List.setIfInBounds_toArray, List.set_cons_zero, List.set_cons_succ]
  refine wpAnyH_take (i := 14) (oi := ⟨some 64, Op.load t (Operand.tmp 63), _, _, _, _⟩) (v := ?v15) rfl (by kernel_rfl) (by kernel_rfl) (by kernel_rfl) (fun _ _ _ h => h) (Or.inl ⟨by rfl, ?hy15⟩) (by assumption) ?rest15
  case hy15 => ((intro w0 hSw; (try dsimp only at hSw); obtain ⟨hs1, hs2, hs3⟩ := hSw; go_simp); try (with_reducible rfl))
  try simp only [Act.put, List.setIfInBounds_toArray, List.set_cons_zero, List.set_cons_succ]
  refine wpAnyH_ready (rs := [15]) (by kernel_rfl) (by simp) ?_
  refine AllReadyH.cons (o := ⟨none, Op.store t (Operand.tmp 4) (Operand.tmp 64), _, _, _, _⟩) rfl (fun K hK => ?_) ?_
  · go_simp
    refine hK.out _ _ ⟨HK.out.1, HK.out.2.1, hld0 _ HK.out.2.2.1⟩ (fun hHeld2 => ?_)
    clear hK K
    try simp only [Act.put, List.setIfInBounds_toArray, List.set_cons_zero, List.set_cons_succ]
    refine wpAnyH_take (i := 16) (oi := ⟨some 5, Op.assign (Operand.const (Value.bool true)), _, _, _, _⟩) (v := ?v16) rfl (by kernel_rfl) (by kernel_rfl) (by kernel_rfl) (fun _ _ _ h => h) (Or.inl ⟨by rfl, ?hy16⟩) (by assumption) ?rest16
    case hy16 => ((intro w0 hSw; (try dsimp only at hSw); obtain ⟨hs1, hs2, hs3⟩ := hSw; go_simp); try (with_reducible rfl))
    try simp only [Act.put, List.setIfInBounds_toArray, List.set_cons_zero, List.set_cons_succ]
    refine wpAnyH_done (by kernel_rfl) ?_ _
    go_wp2_with fail
    have HR : Hid ((w5.drew.setCells w.heap.size 0 (ln l)).rangeAt w.heap.size 0 (ln l)) := Lib.hid (World.rangeAt_setCells_same _ _ _ _ (by rw [ln_len]; exact ht))
    have HE : Hid (w.grownBy (w5.drew.setCells w.heap.size 0 (ln l)) none) := Lib.hid (by
      have h1 := grown_trans HG1.out.2 (grown_drewN w5 1 none)
      have h2 := grown_setCells w5.drew w.heap.size 0 (ln l)
      exact ⟨h2.os.trans h1.os, h2.tape.trans h1.tape, h2.output.trans h1.output, Nat.le_trans h1.size h2.size, fun k hk hn => (h2.block k (Nat.lt_of_lt_of_le hk h1.size) (by simp; omega)).trans (h1.block k hk hn)⟩)
    exact ret_ln rfl _ l _ w.heap.size _ _ (by rfl) (by rfl) HR.out (by exact ⟨rfl, HE.out⟩)
  exact AllReadyH.nil
end
theorem rgoes_any (R : RLoc) (c : Cfg) (ss : List St) (w : World) (hR : Rac w R c ss) (hI : Inv c ss) (b : Int) : Calls Tryd.prog 41 #[.pointer (some ⟨R.b, 0, none⟩), .int .i64 b] w fun e w' => e = .returned (.tuple #[.agg (la (cgoes c ss b).1), .bool (cgoes c ss b).2]) ∧ w.grownBy w' none := by
  unfold cgoes
  by_cases hb : 0 ≤ b ∧ b < 256
  · simp only [if_pos hb]
    have hp := hR.at b
    unfold wayFor
    cases hn : (setAt c ss b).1.findIdx? (isOf b) with
    | some i => exact rgoes_old R c ss w hR hI b hb i hn
    | none =>
      simp only []
      cases hf : (setAt c ss b).1.findIdx? isFree with
      | some i => exact rgoes_free R c ss w hR hI b hb i hn hf
      | none =>
        have hg := Rac.good R c ss w hR (List.mem_of_getElem? hp)
        have hv : vc (setAt c ss b).2 (setAt c ss b).1.length < (setAt c ss b).1.length := vc_lt _ _ (by unfold good at hg; omega)
        have hl : (setAt c ss b).1[vc (setAt c ss b).2 (setAt c ss b).1.length]? = some ((setAt c ss b).1.getD (vc (setAt c ss b).2 (setAt c ss b).1.length) zl) := by
          rw [List.getD_eq_getElem?_getD, List.getElem?_eq_getElem hv]; rfl
        exact rgoes_some R c ss w hR hI b hb _ hn hf hl
  · simp only [if_neg hb]
    exact rgoes_bad R.b b w hb
end Go.Proofs.YtjbapfjeildfoaaDoor.kk
