/-
  The landed deal: what Over answers and makes of it; what no deal answers: contracts. No condition but the bounds that each theorem names.
-/
import Derived.Test.YtkpgajegmomihaaDeF
namespace Go.Proofs.Ytkpgajegmomihaa.de
open Go Go.ChangeShapes Go.WideShapes Go.ChangeAt Go.RowKit
open Go.Proofs.Ytkpgajegmomihaa.tt (U zd row tyne add_lit lt_of range_grown setCells_rest heap_setCells heap_setCells_other grown_setCells grown_setRow grown_new grown_drewN below_of grown_alloc grown_refl grown_trans grown_drew)
open Go.Proofs.Ytkpgajegmomihaa.oo (ref flag' gives older ret_bool jump_ret)
set_option linter.unusedVariables false
set_option maxRecDepth 1000000

/-- What Over tells; which stamp is kept; what is there behind it. -/
def oE (d : Dl) : Int := if d.fa = true then 0 else 8
def oS (d : Dl) : Sv := if d.fa = true then d.s else zs
def oC (d : Dl) : Int := if d.fa = true then d.ca else 0
def kp (d : Dl) : Int := if bits .and .u32 d.ca 255 = 1 then d.st else 0
def oD (d : Dl) : Dl := if d.fa = true then cl d (kp d) else d

theorem there_grown {w w' : World} {g n o : Nat} {own : Option Nat} (h : w.there g o n) (hg : w.grownBy w' own) (hn : some g ≠ own) : w'.there g o n := fun j hj => by
  obtain ⟨h1, h2⟩ := h j hj
  obtain ⟨v, hv⟩ := Option.isSome_iff_exists.1 h1
  have hlt : g < w.heap.size := by
    by_cases hl : g < w.heap.size
    · exact hl
    · have : w.heap[g]? = none := Array.getElem?_eq_none (by omega)
      simp [World.cell?, this] at hv
  have hb := hg.block g hlt hn
  exact ⟨by rw [World.cell?_of_block hb, hv]; rfl, by rw [World.frozen?_of_block hb]; exact h2⟩
section
variable {w : World} {g : Nat} {d : Dl}
set_option maxHeartbeats 1000000 in
theorem over_any (h : LAt w g d) : Calls Try.prog 15 #[.pointer (some ⟨g, 0, none⟩)] w fun e w' => e = .returned (.tuple #[.agg (sa (oS d)), .int .u32 (oC d), .int .i64 (oE d)]) ∧ LAt w' g (oD d) ∧ w.grownBy w' (some g) := by
  have hl := h.lt
  obtain ⟨w1, hw1⟩ : ∃ w1, w.alloc (.cells (sa zs) 31) = w1 := ⟨_, rfl⟩
  have hg1 : w.grownBy w1 none := hw1 ▸ grown_alloc (grown_refl _ _) _
  have hb1 : w1.heap[w.heap.size]? = some (.cells (sa zs) 31 (0, 0)) := hw1 ▸ heap_alloc_new _ _
  have h1 : LAt w1 g d := h.grown hg1 (by simp)
  have hne : g ≠ w.heap.size := by omega
  rw [zs_sa] at hw1
  obtain ⟨c0, c1, c19, c20, c21, c22⟩ := h1.cells
  have ht := there_new hb1 (sa_size _)
  have H1 := Lib.hid h1
  have HW1 := Lib.hid hw1
  have HG1 := Lib.hid hg1
  have HB1 := Lib.hid hb1
  clear h hl hw1 hg1 hb1 c0 c1 c19 c20
  cases hf : d.fa
  · rw [hf] at c21
    have HV : Hid (oS d = zs ∧ oC d = 0 ∧ oE d = 8 ∧ oD d = d) := Lib.hid (by simp [oS, oC, oE, oD, hf])
    have HR : Hid (w1.rangeAt w.heap.size 0 (sl zs)) := Lib.hid (sv_at HB1.out)
    have HT : Hid (w1.there w.heap.size 0 17) := Lib.hid ht
    clear h1 hf c22 ht
    go_enter Try.func15, Try.ntmps15
    go_wp2
    rw [HW1.out]
    refine wp_scope_tail 0 rfl ?_
    go_wp2
    go_step3
    refine ⟨rfl, ?_⟩
    go_wp2_with (first
      | ((with_reducible refine load_sv zs _ _ 0 ?_ HR.out ?_); ((rfl)))
      | ((with_reducible refine store_mid zs _ _ w.heap.size 0 ?_ ?_ HT.out ?_); ((rfl)); ((rfl))))
    rw [jump_ret]
    refine ret_sv3 rfl _ zs _ _ w.heap.size _ _ rfl rfl rfl (World.rangeAt_setCells_same _ _ _ _ (by rw [sl_len]; exact HT.out)) ?_
    obtain ⟨v1, v2, v3, v4⟩ := HV.out
    rw [v1, v2, v3, v4]
    exact ⟨rfl, H1.out.grown (grown_setCells _ _ _ _) (by simpa using hne), grown_to (grown_new2 HG1.out (Nat.le_refl _) (grown_setCells _ _ _ _))⟩
  · rw [hf] at c21
    obtain ⟨w2, hw2⟩ : ∃ w2, w1.drew.setCells w.heap.size 0 (sl d.s) = w2 := ⟨_, rfl⟩
    have ht1 : w1.drew.there w.heap.size 0 17 := ht
    have hg2 : w1.drew.grownBy w2 (some w.heap.size) := hw2 ▸ grown_setCells _ _ _ _
    have h2 : LAt w2 g d := (h1.same (w' := w1.drew) rfl).grown hg2 (by simpa using hne)
    have HR2 : Hid (w2.rangeAt w.heap.size 0 (sl d.s)) := Lib.hid (hw2 ▸ World.rangeAt_setCells_same _ _ _ _ (by rw [sl_len]; exact ht1))
    have HT2 : Hid (w2.there w.heap.size 0 17) := Lib.hid (hw2 ▸ World.there_setCells ht1 _ _ _)
    have HG2 : Hid (w.grownBy w2 none) := Lib.hid (grown_new2 (grown_drewN HG1.out 1) (Nat.le_refl _) hg2)
    have hr : w1.rangeAt g 2 (sl d.s) := h1.save
    have hr2 : w1.drew.rangeAt g 2 (sl d.s) := h1.save
    have hr3 : w2.rangeAt g 2 (sl d.s) := h2.save
    have k22 : w1.drew.cell? ⟨g, 22, none⟩ = some (.int .u32 d.ca) := c22
    have j22 : w2.cell? ⟨g, 22, none⟩ = some (.int .u32 d.ca) := h2.cells.2.2.2.2.2
    have j19 : w2.cell? ⟨g, 19, none⟩ = some (.int .u64 d.st) := h2.cells.2.2.1
    have HC : Hid (∀ k, _) := Lib.hid fun k => close_any h2 k
    have HW2 := Lib.hid hw2
    have HK : Hid (w1.rangeAt g 2 (sl d.s) ∧ w1.cell? ⟨g, 22, none⟩ = some (.int .u32 d.ca) ∧ w1.there w.heap.size 0 17) := Lib.hid ⟨hr, c22, ht⟩
    have HK1 : Hid (w1.drew.rangeAt g 2 (sl d.s) ∧ w1.drew.cell? ⟨g, 22, none⟩ = some (.int .u32 d.ca) ∧ w1.drew.there w.heap.size 0 17) := Lib.hid ⟨hr, c22, ht⟩
    have HK2 : Hid ((w1.drew.setCells w.heap.size 0 (sl d.s)).rangeAt g 2 (sl d.s) ∧ (w1.drew.setCells w.heap.size 0 (sl d.s)).cell? ⟨g, 22, none⟩ = some (.int .u32 d.ca) ∧ (w1.drew.setCells w.heap.size 0 (sl d.s)).there w.heap.size 0 17) := Lib.hid ⟨by rw [HW2.out]; exact hr3, by rw [HW2.out]; exact j22, by rw [HW2.out]; exact HT2.out⟩
    clear h1 h2 hw2 hg2 ht1 hr hr2 hr3 ht c22 k22
    go_enter Try.func15, Try.ntmps15
    go_wp2
    rw [HW1.out]
    refine wp_scope_tail 0 rfl ?_
    go_wp2_with fail
    obtain ⟨t, nn, HT, hagg, hsize, hld, hsz, hst⟩ := named
    have hsz := hsz d.s
    have hst := hst w.heap.size 0 d.s
    have hld := hld g 2 d.s
    rw [HT.out.1, HT.out.2]
    go_region_held (fun w' => w'.rangeAt g 2 (sl d.s) ∧ w'.cell? ⟨g, 22, none⟩ = some (.int .u32 d.ca) ∧ w'.there w.heap.size 0 17) (first | exact HK.out | exact HK1.out | exact HK2.out) (fail)
    rw [HW2.out]
    clear HT hagg hsize hld hsz hst HK HK1 HK2
    have HV : Hid (oS d = d.s ∧ oC d = d.ca ∧ oE d = 0 ∧ oD d = cl d (kp d)) := Lib.hid (by simp [oS, oC, oE, oD, hf])
    by_cases hc : bits .and .u32 d.ca 255 = 1
    · have HC1 := Lib.hid (HC.out (kp d))
      have hk : kp d = d.st := if_pos hc
      have hc' : (bits .and .u32 d.ca 255 == 1) = true := by simpa using hc
      rw [hk] at HC1
      have HKP := Lib.hid hk
      clear HC hf hk hc
      go_wp2_with (first
        | (go_at_call 31; (with_reducible refine HC1.out.mono ?_); rintro e w3 ⟨rfl, h3, hg3⟩; have H3 := Lib.hid h3; have HG3 := Lib.hid hg3; have HR3 : Hid (w3.rangeAt w.heap.size 0 (sl d.s)) := Lib.hid (range_grown HR2.out hg3 (by simpa using hne.symm)); have HT3 : Hid (w3.there w.heap.size 0 17) := Lib.hid (there_grown HT2.out hg3 (by simpa using hne.symm)); clear h3 hg3))
      go_step3
      go_wp2_with (first
        | ((with_reducible refine load_sv d.s _ _ 0 ?_ HR3.out ?_); ((rfl)))
        | ((with_reducible refine store_mid d.s _ _ w.heap.size 0 ?_ ?_ HT3.out ?_); ((rfl)); ((rfl))))
      rw [jump_ret]
      refine ret_sv3 rfl _ d.s _ _ w.heap.size _ _ rfl rfl rfl (World.rangeAt_setCells_same _ _ _ _ (by rw [sl_len]; exact HT3.out)) ?_
      obtain ⟨v1, v2, v3, v4⟩ := HV.out
      rw [v1, v2, v3, v4, HKP.out]
      exact ⟨rfl, H3.out.grown (grown_setCells _ _ _ _) (by simpa using hne), grown_new2 (grown_trans (grown_to HG2.out) HG3.out) (Nat.le_refl _) (grown_setCells _ _ _ _)⟩
    · have HC1 := Lib.hid (HC.out (kp d))
      have hk : kp d = 0 := if_neg hc
      have hc' : (bits .and .u32 d.ca 255 == 1) = false := by simpa using hc
      rw [hk] at HC1
      have HKP := Lib.hid hk
      clear HC hf hk hc
      go_wp2_with (first
        | (go_at_call 31; (with_reducible refine HC1.out.mono ?_); rintro e w3 ⟨rfl, h3, hg3⟩; have H3 := Lib.hid h3; have HG3 := Lib.hid hg3; have HR3 : Hid (w3.rangeAt w.heap.size 0 (sl d.s)) := Lib.hid (range_grown HR2.out hg3 (by simpa using hne.symm)); have HT3 : Hid (w3.there w.heap.size 0 17) := Lib.hid (there_grown HT2.out hg3 (by simpa using hne.symm)); clear h3 hg3))
      go_step3
      go_wp2_with (first
        | ((with_reducible refine load_sv d.s _ _ 0 ?_ HR3.out ?_); ((rfl)))
        | ((with_reducible refine store_mid d.s _ _ w.heap.size 0 ?_ ?_ HT3.out ?_); ((rfl)); ((rfl))))
      rw [jump_ret]
      refine ret_sv3 rfl _ d.s _ _ w.heap.size _ _ rfl rfl rfl (World.rangeAt_setCells_same _ _ _ _ (by rw [sl_len]; exact HT3.out)) ?_
      obtain ⟨v1, v2, v3, v4⟩ := HV.out
      rw [v1, v2, v3, v4, HKP.out]
      exact ⟨rfl, H3.out.grown (grown_setCells _ _ _ _) (by simpa using hne), grown_new2 (grown_trans (grown_to HG2.out) HG3.out) (Nat.le_refl _) (grown_setCells _ _ _ _)⟩
end

theorem depth_nil (w : World) : Calls Try.prog 18 #[.pointer none] w fun e w' => e = .returned (.int .i64 0) ∧ w = w' := by
  go_enter Try.func18, Try.ntmps18
  go_wp2
  go_ret
  exact ⟨rfl, rfl⟩
theorem failing_nil (w : World) : Calls Try.prog 19 #[.pointer none] w fun e w' => e = .returned (.bool false) ∧ w = w' := by
  go_enter Try.func19, Try.ntmps19
  go_wp2
  go_ret
  exact ⟨rfl, rfl⟩
theorem flag_nil (w : World) : Calls Try.prog 20 #[.pointer none] w fun e w' => e = .returned (.bool false) ∧ w = w' := by
  go_enter Try.func20, Try.ntmps20
  go_wp2
  go_ret
  exact ⟨rfl, rfl⟩
theorem stamp_nil (w : World) : Calls Try.prog 13 #[.pointer none] w fun e w' => e = .returned (.int .u64 0) ∧ w = w' := by
  go_enter Try.func13, Try.ntmps13
  go_wp2_with (go_at_call 18; refine (depth_nil _).mono ?_; rintro e w' ⟨rfl, rfl⟩)
  go_ret
  exact ⟨rfl, rfl⟩
theorem copy_nil (w : World) : Calls Try.prog 21 #[.pointer none] w fun e w' => e = .returned (.pointer none) ∧ w = w' := by
  go_enter Try.func21, Try.ntmps21
  go_wp2
  go_ret
  exact ⟨rfl, rfl⟩
theorem asked_nil (m : Bool) (x : Int) (w : World) : Calls Try.prog 16 #[.pointer none, .bool m, .int .u64 x] w fun e w' => e = .returned (.bool false) ∧ w = w' := by
  go_enter Try.func16, Try.ntmps16
  go_wp2
  go_ret
  exact ⟨rfl, rfl⟩
theorem goes_nil (w : World) : Calls Try.prog 30 #[.pointer none] w fun e w' => e = .returned (.int .i64 1) ∧ w = w' := by
  go_enter Try.func30, Try.ntmps30
  go_wp2
  refine wp_scope_tail 0 rfl ?_
  go_wp2
  go_step3
  refine ⟨rfl, ?_⟩
  go_wp2
  rw [jump_ret]
  go_ret
  exact ⟨rfl, rfl⟩
theorem end_nil (w : World) : Calls Try.prog 12 #[.pointer none] w fun e w' => e = .returned (.tuple #[.bool false, .int .i64 1]) ∧ w = w' := by
  go_enter Try.func12, Try.ntmps12
  go_wp2_with (go_at_call 30; refine (goes_nil _).mono ?_; rintro e w' ⟨rfl, rfl⟩)
  go_ret2
  exact ⟨rfl, rfl⟩
theorem fail_nil (c : Int) (w : World) : Calls Try.prog 14 #[.pointer none, .int .u32 c] w fun e w' => e = .returned (.int .i64 1) ∧ w = w' := by
  go_enter Try.func14, Try.ntmps14
  go_wp2_with (go_at_call 30; refine (goes_nil _).mono ?_; rintro e w' ⟨rfl, rfl⟩)
  go_ret
  exact ⟨rfl, rfl⟩
theorem refused_nil (x : Int) (w : World) : Calls Try.prog 17 #[.pointer none, .int .u64 x] w fun e w' => e = .returned (.bool false) ∧ w.grownBy w' none := by
  go_enter Try.func17, Try.ntmps17
  go_wp2_with fail
  go_quiet (first
    | (go_at_call 30; exact Calls.quiet_of_same ((goes_nil _).mono fun _ _ he => ⟨he.1, he.2.symm⟩)))
  go_wp2_with fail
  go_ret
  exact ⟨rfl, grown_drewN (grown_refl _ _) _⟩
theorem begin_nil (s : Sv) (x : Int) (w : World) : Calls Try.prog 10 #[.pointer none, .agg (sa s), .int .u64 x] w fun e w' => e = .returned (.int .i64 1) ∧ w.grownBy w' none := by
  go_enter Try.func10, Try.ntmps10
  go_wp2
  refine wp_scope_tail 0 rfl ?_
  go_wp2
  go_step3
  refine ⟨rfl, ?_⟩
  go_wp2
  rw [jump_ret]
  go_ret
  exact ⟨rfl, grown_alloc (grown_refl _ _) _⟩
theorem over_nil (w : World) : Calls Try.prog 15 #[.pointer none] w fun e w' => e = .returned (.tuple #[.agg (sa zs), .int .u32 0, .int .i64 1]) ∧ w.grownBy w' none := by
  obtain ⟨w1, hw1⟩ : ∃ w1, w.alloc (.cells (sa zs) 31) = w1 := ⟨_, rfl⟩
  have hg1 : w.grownBy w1 none := hw1 ▸ grown_alloc (grown_refl _ _) _
  have hb1 : w1.heap[w.heap.size]? = some (.cells (sa zs) 31 (0, 0)) := hw1 ▸ heap_alloc_new _ _
  rw [zs_sa] at hw1
  have HR : Hid (w1.rangeAt w.heap.size 0 (sl zs)) := Lib.hid (sv_at hb1)
  have HT : Hid (w1.there w.heap.size 0 17) := Lib.hid (there_new hb1 (sa_size _))
  have HW1 := Lib.hid hw1
  have HG1 := Lib.hid hg1
  clear hw1 hg1 hb1
  go_enter Try.func15, Try.ntmps15
  go_wp2
  rw [HW1.out]
  refine wp_scope_tail 0 rfl ?_
  go_wp2
  go_step3
  refine ⟨rfl, ?_⟩
  go_wp2_with (first
    | ((with_reducible refine load_sv zs _ _ 0 ?_ HR.out ?_); ((rfl)))
    | ((with_reducible refine store_mid zs _ _ w.heap.size 0 ?_ ?_ HT.out ?_); ((rfl)); ((rfl))))
  rw [jump_ret]
  refine ret_sv3 rfl _ zs _ _ w.heap.size _ _ rfl rfl rfl (World.rangeAt_setCells_same _ _ _ _ (by rw [sl_len]; exact HT.out)) ?_
  exact ⟨rfl, grown_new2 HG1.out (Nat.le_refl _) (grown_setCells _ _ _ _)⟩
end Go.Proofs.Ytkpgajegmomihaa.de
