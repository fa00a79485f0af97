/-
  The document's own deal: what its Over answers and makes of it: contracts. No condition but the bounds that each theorem names.
-/
import Derived.Test.YtkpgajegmomihaaDeI
import Derived.Deep.Cut
namespace Go.Proofs.Ytkpgajegmomihaa.de
open Go Go.ChangeShapes Go.WideShapes Go.ChangeAt Go.RowKit
open Go.Proofs.Ytkpgajegmomihaa.tt (U zd row tyne add_lit lt_of range_grown setCells_rest heap_setCells heap_setCells_other grown_setCells grown_setRow grown_new grown_drewN below_of grown_alloc grown_refl grown_trans grown_drew)
open Go.Proofs.Ytkpgajegmomihaa.oo (ref flag' gives older ret_bool jump_ret)
set_option linter.unusedVariables false
set_option maxRecDepth 1000000

section
variable {w : World} {g : Nat} {d : Dl}
set_option maxHeartbeats 2000000 in
theorem rover_any (I : Inv d) (h : Both w g d) : Calls Try.prog 25 #[.pointer (some ⟨g, 0, none⟩)] w fun e w' => e = .returned (.tuple #[.agg (sa (oS d)), .int .u32 (oC d), .int .i64 (oE d)]) ∧ Both w' g (oD d) ∧ w.grownBy w' (some g) := by
  obtain ⟨s0, c, h, ha⟩ := h
  have hl := h.lt
  obtain ⟨w1, hw1⟩ : ∃ w1, w.alloc (.cells (sa zs) 31) = w1 := ⟨_, rfl⟩
  have hg1 : w.grownBy w1 none := hw1 ▸ grown_alloc (grown_refl _ _) _
  have hb1 : w1.heap[w.heap.size]? = some (.cells (sa zs) 31 (0, 0)) := hw1 ▸ heap_alloc_new _ _
  have h1 : RAt w1 g (mir d s0 c) := h.grown hg1 (by simp)
  have hne : g ≠ w.heap.size := by omega
  obtain ⟨c0, c1, c19, c20, c21, c22⟩ := h1.cells
  have k21 : w1.cell? ⟨g, 21, none⟩ = some (.bool d.fa) := c21
  have k22 : w1.cell? ⟨g, 22, none⟩ = some (.int .u32 c) := c22
  have ht := there_new hb1 (sa_size _)
  have H1 := Lib.hid h1
  have HW1 := Lib.hid hw1
  have HG1 := Lib.hid hg1
  have HI := Lib.hid I
  have HA := Lib.hid ha
  clear h hl hw1 hg1 hb1 c0 c21 c22 I ha
  cases hf : d.fa
  · rw [hf] at k21
    have HV : Hid (oS d = zs ∧ oC d = 0 ∧ oE d = 8 ∧ oD d = d) := Lib.hid (by simp [oS, oC, oE, oD, hf])
    have HT : Hid (w1.there w.heap.size 0 17) := Lib.hid ht
    clear h1 hf k22 c1 c19 c20 ht
    obtain ⟨Z, hZ⟩ : ∃ Z, Z = zs := ⟨_, rfl⟩
    have hA := zs_sa.symm
    rw [← hZ] at hA HV HW1
    clear hZ
    go_enter Try.func25, Try.ntmps25
    go_upto_region 1 with fail
    rw [HW1.out]
    go_wp2_with (first
      | ((with_reducible refine store_mid Z _ _ w.heap.size 0 ?_ ?_ HT.out ?_); ((rfl)); ((rfl))))
    refine ret_sv3 rfl _ Z _ _ w.heap.size _ _ rfl rfl rfl (World.rangeAt_setCells_same _ _ _ _ (by rw [sl_len]; exact HT.out)) ?_
    obtain ⟨v1, v2, v3, v4⟩ := HV.out
    rw [v1, v2, v3, v4]
    exact ⟨rfl, ⟨s0, c, H1.out.grown (grown_setCells _ _ _ _) (by simpa using hne), HA.out⟩, grown_to (grown_new2 HG1.out (Nat.le_refl _) (grown_setCells _ _ _ _))⟩
  · rw [hf] at k21
    have hcd : c = d.ca := HA.out.2 hf
    subst hcd
    have hsd : s0 = d.s := HA.out.1 (fun e => by have := HI.out.fa0 e; rw [hf] at this; cases this)
    subst hsd
    have f1 := h1.free 1
    have f19 := h1.free 19
    have f20 := h1.free 20
    have f21 := h1.free 21
    have ca0 := HI.out.cap
    have ca1 := HI.out.cau
    have HV : Hid (oS d = d.s ∧ oC d = d.ca ∧ oE d = 0 ∧ oD d = cl d (kp d)) := Lib.hid (by simp [oS, oC, oE, oD, hf])
    by_cases hc : d.ca % 256 = 1
    · have HK : Hid (kp d = d.st) := Lib.hid (by unfold kp; rw [and255 _ ca0 ca1, if_pos hc])
      obtain ⟨w2, hw2⟩ : ∃ w2, ((w1.setCell ⟨g, 21, none⟩ (.bool false)).setCell ⟨g, 1, none⟩ (.int .i64 0)).setCell ⟨g, 20, none⟩ (.bool false) = w2 := ⟨_, rfl⟩
      have h2 : RAt w2 g (mir (cl d d.st) d.s d.ca) := by
        have := ((H1.out.put_fa false).put_de 0).put_fl false
        rw [hw2] at this
        exact this
      have hg2 : w1.grownBy w2 (some g) := hw2 ▸ grown_trans (grown_trans (grown_setCell _ _ _ _) (grown_setCell _ _ _ _)) (grown_setCell _ _ _ _)
      have ht2 : w2.there w.heap.size 0 17 := there_grown ht hg2 (by simpa using hne.symm)
      obtain ⟨w3, hw3⟩ : ∃ w3, w2.drew.setCells w.heap.size 0 (sl d.s) = w3 := ⟨_, rfl⟩
      have ht3 : w2.drew.there w.heap.size 0 17 := ht2
      have hg3 : w2.drew.grownBy w3 (some w.heap.size) := hw3 ▸ grown_setCells _ _ _ _
      have h3 : RAt w3 g (mir (cl d d.st) d.s d.ca) := (h2.same (w' := w2.drew) rfl).grown hg3 (by simpa using hne)
      have HR3 : Hid (w3.rangeAt w.heap.size 0 (sl d.s)) := Lib.hid (hw3 ▸ World.rangeAt_setCells_same _ _ _ _ (by rw [sl_len]; exact ht3))
      have HT3 : Hid (w3.there w.heap.size 0 17) := Lib.hid (hw3 ▸ World.there_setCells ht3 _ _ _)
      have HG3 : Hid (w.grownBy w3 (some g)) := Lib.hid (grown_new2 (grown_drewN (grown_trans (grown_to HG1.out) hg2) 1) (Nat.le_refl _) hg3)
      have HW2 := Lib.hid hw2
      have HW3 := Lib.hid hw3
      have H3 := Lib.hid h3
      have HK0 : Hid (w2.rangeAt g 2 (sl d.s) ∧ w2.cell? ⟨g, 22, none⟩ = some (.int .u32 d.ca) ∧ w2.there w.heap.size 0 17) := Lib.hid ⟨h2.save, h2.cells.2.2.2.2.2, ht2⟩
      have HK1 : Hid (w2.drew.rangeAt g 2 (sl d.s) ∧ w2.drew.cell? ⟨g, 22, none⟩ = some (.int .u32 d.ca) ∧ w2.drew.there w.heap.size 0 17) := Lib.hid ⟨h2.save, h2.cells.2.2.2.2.2, ht2⟩
      have HK2 : Hid ((w2.drew.setCells w.heap.size 0 (sl d.s)).rangeAt g 2 (sl d.s) ∧ (w2.drew.setCells w.heap.size 0 (sl d.s)).cell? ⟨g, 22, none⟩ = some (.int .u32 d.ca) ∧ (w2.drew.setCells w.heap.size 0 (sl d.s)).there w.heap.size 0 17) := Lib.hid ⟨by rw [HW3.out]; exact h3.save, by rw [HW3.out]; exact h3.cells.2.2.2.2.2, by rw [HW3.out]; exact HT3.out⟩
      have hc' : (d.ca % 256 == 1) = true := by simpa using hc
      have hc2 : (d.ca % 256 != 1) = false := by simpa using hc
      obtain ⟨Z, hZ⟩ : ∃ Z, Z = zs := ⟨_, rfl⟩
      have hA := zs_sa.symm
      rw [← hZ] at hA HW1
      clear hZ hw2 h2 hg2 ht2 hw3 ht3 hg3 h3 hf ht h1 hc
      go_enter Try.func25, Try.ntmps25
      go_upto_region 1 with fail
      rw [HW1.out]
      go_wp2_with fail
      rw [HW2.out]
      obtain ⟨t, nn, HT, hagg, hsize, hld, hsz, hst⟩ := named
      have hsz := hsz d.s
      have hst := hst w.heap.size 0 d.s
      have hld := hld g 2 d.s
      rw [HT.out.1, HT.out.2]
      go_region_held (fun w' => w'.rangeAt g 2 (sl d.s) ∧ w'.cell? ⟨g, 22, none⟩ = some (.int .u32 d.ca) ∧ w'.there w.heap.size 0 17) (first | exact HK0.out | exact HK1.out | exact HK2.out) (fail)
      rw [HW3.out]
      go_wp2_with fail
      refine ret_sv3 rfl _ d.s _ _ w.heap.size _ _ rfl rfl rfl HR3.out ?_
      obtain ⟨v1, v2, v3, v4⟩ := HV.out
      rw [v1, v2, v3, v4, HK.out]
      exact ⟨rfl, ⟨d.s, d.ca, H3.out, fun h => (h rfl).elim, fun h => (by cases h)⟩, HG3.out⟩
    · have HK : Hid (kp d = 0) := Lib.hid (by unfold kp; rw [and255 _ ca0 ca1, if_neg hc])
      obtain ⟨w2, hw2⟩ : ∃ w2, (((w1.setCell ⟨g, 21, none⟩ (.bool false)).setCell ⟨g, 1, none⟩ (.int .i64 0)).setCell ⟨g, 20, none⟩ (.bool false)).setCell ⟨g, 19, none⟩ (.int .u64 0) = w2 := ⟨_, rfl⟩
      have h2 : RAt w2 g (mir (cl d 0) d.s d.ca) := by
        have := (((H1.out.put_fa false).put_de 0).put_fl false).put_st 0
        rw [hw2] at this
        exact this
      have hg2 : w1.grownBy w2 (some g) := hw2 ▸ grown_trans (grown_trans (grown_trans (grown_setCell _ _ _ _) (grown_setCell _ _ _ _)) (grown_setCell _ _ _ _)) (grown_setCell _ _ _ _)
      have ht2 : w2.there w.heap.size 0 17 := there_grown ht hg2 (by simpa using hne.symm)
      obtain ⟨w3, hw3⟩ : ∃ w3, w2.drew.setCells w.heap.size 0 (sl d.s) = w3 := ⟨_, rfl⟩
      have ht3 : w2.drew.there w.heap.size 0 17 := ht2
      have hg3 : w2.drew.grownBy w3 (some w.heap.size) := hw3 ▸ grown_setCells _ _ _ _
      have h3 : RAt w3 g (mir (cl d 0) d.s d.ca) := (h2.same (w' := w2.drew) rfl).grown hg3 (by simpa using hne)
      have HR3 : Hid (w3.rangeAt w.heap.size 0 (sl d.s)) := Lib.hid (hw3 ▸ World.rangeAt_setCells_same _ _ _ _ (by rw [sl_len]; exact ht3))
      have HT3 : Hid (w3.there w.heap.size 0 17) := Lib.hid (hw3 ▸ World.there_setCells ht3 _ _ _)
      have HG3 : Hid (w.grownBy w3 (some g)) := Lib.hid (grown_new2 (grown_drewN (grown_trans (grown_to HG1.out) hg2) 1) (Nat.le_refl _) hg3)
      have HW2 := Lib.hid hw2
      have HW3 := Lib.hid hw3
      have H3 := Lib.hid h3
      have HK0 : Hid (w2.rangeAt g 2 (sl d.s) ∧ w2.cell? ⟨g, 22, none⟩ = some (.int .u32 d.ca) ∧ w2.there w.heap.size 0 17) := Lib.hid ⟨h2.save, h2.cells.2.2.2.2.2, ht2⟩
      have HK1 : Hid (w2.drew.rangeAt g 2 (sl d.s) ∧ w2.drew.cell? ⟨g, 22, none⟩ = some (.int .u32 d.ca) ∧ w2.drew.there w.heap.size 0 17) := Lib.hid ⟨h2.save, h2.cells.2.2.2.2.2, ht2⟩
      have HK2 : Hid ((w2.drew.setCells w.heap.size 0 (sl d.s)).rangeAt g 2 (sl d.s) ∧ (w2.drew.setCells w.heap.size 0 (sl d.s)).cell? ⟨g, 22, none⟩ = some (.int .u32 d.ca) ∧ (w2.drew.setCells w.heap.size 0 (sl d.s)).there w.heap.size 0 17) := Lib.hid ⟨by rw [HW3.out]; exact h3.save, by rw [HW3.out]; exact h3.cells.2.2.2.2.2, by rw [HW3.out]; exact HT3.out⟩
      have hc' : (d.ca % 256 == 1) = false := by simpa using hc
      have hc2 : (d.ca % 256 != 1) = true := by simpa using hc
      obtain ⟨Z, hZ⟩ : ∃ Z, Z = zs := ⟨_, rfl⟩
      have hA := zs_sa.symm
      rw [← hZ] at hA HW1
      clear hZ hw2 h2 hg2 ht2 hw3 ht3 hg3 h3 hf ht h1 hc
      go_enter Try.func25, Try.ntmps25
      go_upto_region 1 with fail
      rw [HW1.out]
      go_wp2_with fail
      rw [HW2.out]
      obtain ⟨t, nn, HT, hagg, hsize, hld, hsz, hst⟩ := named
      have hsz := hsz d.s
      have hst := hst w.heap.size 0 d.s
      have hld := hld g 2 d.s
      rw [HT.out.1, HT.out.2]
      go_region_held (fun w' => w'.rangeAt g 2 (sl d.s) ∧ w'.cell? ⟨g, 22, none⟩ = some (.int .u32 d.ca) ∧ w'.there w.heap.size 0 17) (first | exact HK0.out | exact HK1.out | exact HK2.out) (fail)
      rw [HW3.out]
      go_wp2_with fail
      refine ret_sv3 rfl _ d.s _ _ w.heap.size _ _ rfl rfl rfl HR3.out ?_
      obtain ⟨v1, v2, v3, v4⟩ := HV.out
      rw [v1, v2, v3, v4, HK.out]
      exact ⟨rfl, ⟨d.s, d.ca, H3.out, fun h => (h rfl).elim, fun h => (by cases h)⟩, HG3.out⟩
end
end Go.Proofs.Ytkpgajegmomihaa.de
