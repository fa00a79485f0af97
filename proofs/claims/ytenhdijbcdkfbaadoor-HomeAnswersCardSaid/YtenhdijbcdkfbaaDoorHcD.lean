/-
  What Ready of a home answers: contract. Condition: the table of kinds lies in its variable as the program's text has it.
-/
import Derived.Test.YtenhdijbcdkfbaaDoorHc
namespace Go.Proofs.YtenhdijbcdkfbaaDoor.hh
open Go Go.ChangeShapes Go.WideShapes Go.ChangeAt Go.RowKit
open Go.Proofs.YtenhdijbcdkfbaaDoor.tt (Nt Cfg fits net bare zd usd uses coreOf ok_ends MapAt mput mdel ik NPool NSl Turn flat na nt zn grown_alloc grown_refl grown_trans tyne lt_of)
open Go.Proofs.YtenhdijbcdkfbaaDoor.en (En gets back asked asks free ask_parts may_parts ea)
open Go.Proofs.YtenhdijbcdkfbaaDoor.mm (wi wo ones wo_lt)
set_option linter.unusedVariables false


section
variable {w : World} {h : Nat} {c : Cfg} {F : Ft} {H : Hm}
set_option maxRecDepth 1000000 in
set_option maxHeartbeats 2000000 in
theorem ready_bad (A : HomeAt w h c F H) (hK : tt.TabK w) (n : Nt) (hf : ¬ (fits c n ∧ n.t = -1)) : Calls Tryd.prog 18 #[.pointer (some ⟨h, 0, none⟩), .agg (na n)] w fun e w' => e = .returned (.int .i64 2) ∧ w.grownBy w' none := by
  obtain ⟨wb, hwb⟩ : ∃ wb, w.alloc (.cells (na n) 31) = wb := ⟨_, rfl⟩
  have hgb : w.grownBy wb none := by rw [← hwb]; exact grown_alloc (grown_refl _ _) _
  have HA : Hid (∀ w', wb.grownBy w' none → HomeAt w' h c F H) := qh fun w' h' => A.grown (grown_trans hgb h')
  have hbx : wb.heap[w.heap.size]? = some (.cells (na n) 31 (0, 0)) := by rw [← hwb]; exact heap_alloc_new _ _
  have HR : Hid (∀ w', wb.grownBy w' none → w'.rangeAt w.heap.size 0 (nt n)) := qh fun w' h => tt.range_grown (tt.range_of hbx) h (by simp)
  have HM : Hid (∀ w', wb.grownBy w' none → _) := qh fun w' h' => hfits_any (HA.out w' h') ((hK.grown hgb).grown h') n
  have HG := qh hgb
  have HL : Hid (h < w.heap.size) := qh A.lt
  have HX : Hid (w.heap.size < wb.heap.size) := qh (lt_of hbx)
  rw [decide_eq_false hf] at HM
  clear A hK hgb hbx hf
  go_enter Tryd.func18, Tryd.ntmps18
  go_wp2_with (first
    | ((with_reducible refine tt.load_nt n _ w.heap.size ?_ (HR.out _ (grown_refl _ _)) ?_); (rfl))
    | (go_at_call 40; ((with_reducible refine (HM.out _ (grown_refl _ _)).mono ?_); rintro e w1 ⟨rfl, hg1⟩; have HG1 := qh hg1; clear hg1)))
  go_ret
  exact ⟨rfl, grown_trans HG.out HG1.out⟩
set_option maxRecDepth 1000000 in
set_option maxHeartbeats 2000000 in
theorem ready_9_t (A : HomeAt w h c F H) (hK : tt.TabK w) (n : Nt) (hf : fits c n ∧ n.t = -1) (a0 a1 : Int) (a2 : Nat) (a3 : Bool) (a4 : Int) (is : Bool) (hx : askOr H n.b.toNat = #[.int .u8 a0, .int .i64 a1, .int .u32 (a2 : Int), .bool a3, .int .u64 a4]) (hi : (jbOf H n.b.toNat).isSome = is) (hk : n.k = 9) (hm : a2 < 4294967296) (hh : mm.ha a2 n.f = true) : Calls Tryd.prog 18 #[.pointer (some ⟨h, 0, none⟩), .agg (na n)] w fun e w' => e = .returned (.int .i64 0) ∧ w.grownBy w' none := by
  obtain ⟨wb, hwb⟩ : ∃ wb, w.alloc (.cells (na n) 31) = wb := ⟨_, rfl⟩
  have hgb : w.grownBy wb none := by rw [← hwb]; exact grown_alloc (grown_refl _ _) _
  have HA : Hid (∀ w', wb.grownBy w' none → HomeAt w' h c F H) := qh fun w' h' => A.grown (grown_trans hgb h')
  have hbx : wb.heap[w.heap.size]? = some (.cells (na n) 31 (0, 0)) := by rw [← hwb]; exact heap_alloc_new _ _
  have HR : Hid (∀ w', wb.grownBy w' none → w'.rangeAt w.heap.size 0 (nt n)) := qh fun w' h => tt.range_grown (tt.range_of hbx) h (by simp)
  have HM : Hid (∀ w', wb.grownBy w' none → _) := qh fun w' h' => hfits_any (HA.out w' h') ((hK.grown hgb).grown h') n
  have HG := qh hgb
  have HL : Hid (h < w.heap.size) := qh A.lt
  have HX : Hid (w.heap.size < wb.heap.size) := qh (lt_of hbx)
  rw [decide_eq_true hf] at HM
  have HK : Hid (∀ w', wb.grownBy w' none → (w'.cell? ⟨h, 0, none⟩ = some (.int .i64 c.co) ∧ w'.cell? ⟨h, 3, none⟩ = some (.map (some F.ub)) ∧ w'.cell? ⟨h, 4, none⟩ = some (.pointer (some ⟨F.pb, 0, none⟩))) ∧ (w'.cell? ⟨w.heap.size, 0, none⟩ = some (.int .u8 n.k) ∧ w'.cell? ⟨w.heap.size, 1, none⟩ = some (.int .i64 n.f) ∧ w'.cell? ⟨w.heap.size, 3, none⟩ = some (.int .i64 n.b)) ∧ (Instr.lookup 83 (.map (some F.ub)) (.int .i64 n.b) true).run Tryd.prog w' = .ok (.tuple #[.agg #[.int .u8 a0, .int .i64 a1, .int .u32 (a2 : Int), .bool a3, .int .u64 a4], .bool is]) w') := qh fun w' h' => by
    have hA := HA.out w' h'
    have hb := (blk_lt hf.1).1
    refine ⟨⟨hA.cells.1, hA.cells.2.2.2.1, hA.cells.2.2.2.2⟩, ⟨tt.cell_at (HR.out w' h') 0 _ rfl, tt.cell_at (HR.out w' h') 1 _ rfl, tt.cell_at (HR.out w' h') 3 _ rfl⟩, ?_⟩
    have := hA.look n.b.toNat
    rw [Int.toNat_of_nonneg hb, hx, hi] at this
    exact this
  have e9 : (n.k == 9) = true := by rw [hk]; rfl
  have HQ : Hid (∀ w, _) := qh fun w => mm.has_any a2 n.f w hm
  rw [hh] at HQ
  clear hk hm hh
  have HHX := qh hx
  have HHI := qh hi
  clear A hK hgb hbx hf hx hi
  go_enter Tryd.func18, Tryd.ntmps18
  go_wp2_with (first
    | ((with_reducible refine tt.load_nt n _ w.heap.size ?_ (HR.out _ (grown_refl _ _)) ?_); (rfl))
    | (go_at_call 40; ((with_reducible refine (HM.out _ (grown_refl _ _)).mono ?_); rintro e w1 ⟨rfl, hg1⟩; have HG1 := qh hg1; clear hg1)))
  refine wp_region_held_drew (S := fun w' => wb.grownBy w' none) (by kernel_rfl) (tt.grown_drew HG1.out) (fun hHeld => ?_)
  generalize w1.drew = wd at hHeld ⊢
  have HD := qh hHeld
  refine hh.tl 0 ⟨some 14, Op.move (.tmp 0), _, _, _, _⟩ ?v1 rfl ?hy1 ?_
  case hy1 => ((intro w0 hSw; obtain ⟨⟨hs0, hs1, hs2⟩, ⟨hs3, hs4, hs5⟩, hs6⟩ := HK.out w0 hSw; go_simp); try (with_reducible rfl))
  try simp only [lay]
  refine hh.tl 1 ⟨some 15, Op.nilCheck (.tmp 14), _, _, _, _⟩ ?v2 rfl ?hy2 ?_
  case hy2 => ((intro w0 hSw; obtain ⟨⟨hs0, hs1, hs2⟩, ⟨hs3, hs4, hs5⟩, hs6⟩ := HK.out w0 hSw; go_simp); try (with_reducible rfl))
  try simp only [lay]
  refine hh.tl 2 ⟨some 16, Op.fieldAddr 86 (.tmp 15) 3, _, _, _, _⟩ ?v3 rfl ?hy3 ?_
  case hy3 => ((intro w0 hSw; obtain ⟨⟨hs0, hs1, hs2⟩, ⟨hs3, hs4, hs5⟩, hs6⟩ := HK.out w0 hSw; go_simp); try (with_reducible rfl))
  try simp only [lay]
  refine hh.tl 3 ⟨some 17, Op.load 83 (.tmp 16), _, _, _, _⟩ ?v4 rfl ?hy4 ?_
  case hy4 => ((intro w0 hSw; obtain ⟨⟨hs0, hs1, hs2⟩, ⟨hs3, hs4, hs5⟩, hs6⟩ := HK.out w0 hSw; go_simp); try (with_reducible rfl))
  try simp only [lay]
  refine hh.tl 4 ⟨some 18, Op.fieldAddr 31 (.tmp 3) 3, _, _, _, _⟩ ?v5 rfl ?hy5 ?_
  case hy5 => ((intro w0 hSw; obtain ⟨⟨hs0, hs1, hs2⟩, ⟨hs3, hs4, hs5⟩, hs6⟩ := HK.out w0 hSw; go_simp); try (with_reducible rfl))
  try simp only [lay]
  refine hh.tl 5 ⟨some 19, Op.load 3 (.tmp 18), _, _, _, _⟩ ?v6 rfl ?hy6 ?_
  case hy6 => ((intro w0 hSw; obtain ⟨⟨hs0, hs1, hs2⟩, ⟨hs3, hs4, hs5⟩, hs6⟩ := HK.out w0 hSw; go_simp); try (with_reducible rfl))
  try simp only [lay]
  refine hh.tl 6 ⟨some 20, Op.lookup 83 (.tmp 17) (.tmp 19) true, _, _, _, _⟩ ?v7 rfl ?hy7 ?_
  case hy7 => ((intro w0 hSw; obtain ⟨⟨hs0, hs1, hs2⟩, ⟨hs3, hs4, hs5⟩, hs6⟩ := HK.out w0 hSw; go_simp); try (with_reducible rfl))
  try simp only [lay]
  refine hh.tl 7 ⟨some 13, Op.move (.tmp 20), _, _, _, _⟩ ?v8 rfl ?hy8 ?_
  case hy8 => ((intro w0 hSw; obtain ⟨⟨hs0, hs1, hs2⟩, ⟨hs3, hs4, hs5⟩, hs6⟩ := HK.out w0 hSw; go_simp); try (with_reducible rfl))
  try simp only [lay]
  refine hh.tl 8 ⟨some 21, Op.extract (.tmp 13) 0, _, _, _, _⟩ ?v9 rfl ?hy9 ?_
  case hy9 => ((intro w0 hSw; obtain ⟨⟨hs0, hs1, hs2⟩, ⟨hs3, hs4, hs5⟩, hs6⟩ := HK.out w0 hSw; go_simp); try (with_reducible rfl))
  try simp only [lay]
  refine hh.tl 9 ⟨some 22, Op.extract (.tmp 13) 1, _, _, _, _⟩ ?v10 rfl ?hy10 ?_
  case hy10 => ((intro w0 hSw; obtain ⟨⟨hs0, hs1, hs2⟩, ⟨hs3, hs4, hs5⟩, hs6⟩ := HK.out w0 hSw; go_simp); try (with_reducible rfl))
  try simp only [lay]
  refine rd1 (i := 10) (o := ⟨some 5, Op.alloc 80, _, _, _, _⟩) rfl (fun K hK => ?_)
  go_simp
  refine hK.out _ _ (grown_alloc hHeld _) (fun hHeld => ?_)
  clear hK K
  try simp only [lay]
  refine rd1 (i := 11) (o := ⟨none, Op.store 80 (.tmp 5) (.tmp 21), _, _, _, _⟩) rfl (fun K hK => ?_)
  go_simp
  refine hK.out _ _ (grown_alloc HD.out _) (fun hHeld => ?_)
  clear hK K
  try simp only [lay]
  refine hh.tl 12 ⟨some 6, Op.assign (.tmp 22), _, _, _, _⟩ ?v11 rfl ?hy11 ?_
  case hy11 => ((intro w0 hSw; go_simp); try (with_reducible rfl))
  try simp only [lay]
  refine wpAnyH_done (by kernel_rfl) ?_ _
  obtain ⟨⟨f0, f1, f2⟩, ⟨f3, f4, f5⟩, f6⟩ := HK.out wd HD.out
  have hlt : w.heap.size < wd.heap.size := Nat.lt_of_lt_of_le HX.out HD.out.size
  have hne : ¬ w.heap.size = wd.heap.size := Nat.ne_of_lt hlt
  have hht : h < wd.heap.size := Nat.lt_trans HL.out hlt
  have hhe : ¬ h = wd.heap.size := Nat.ne_of_lt hht
  go_wp2_with (go_at_call 41; ((with_reducible refine (HQ.out _).mono ?_); rintro e w5 ⟨rfl, rfl⟩))
  go_ret
  exact ⟨rfl, grown_trans HG.out (grown_alloc HD.out _)⟩
set_option maxRecDepth 1000000 in
set_option maxHeartbeats 2000000 in
theorem ready_9_f (A : HomeAt w h c F H) (hK : tt.TabK w) (n : Nt) (hf : fits c n ∧ n.t = -1) (a0 a1 : Int) (a2 : Nat) (a3 : Bool) (a4 : Int) (is : Bool) (hx : askOr H n.b.toNat = #[.int .u8 a0, .int .i64 a1, .int .u32 (a2 : Int), .bool a3, .int .u64 a4]) (hi : (jbOf H n.b.toNat).isSome = is) (hk : n.k = 9) (hm : a2 < 4294967296) (hh : mm.ha a2 n.f = false) : Calls Tryd.prog 18 #[.pointer (some ⟨h, 0, none⟩), .agg (na n)] w fun e w' => e = .returned (.int .i64 8) ∧ w.grownBy w' none := by
  obtain ⟨wb, hwb⟩ : ∃ wb, w.alloc (.cells (na n) 31) = wb := ⟨_, rfl⟩
  have hgb : w.grownBy wb none := by rw [← hwb]; exact grown_alloc (grown_refl _ _) _
  have HA : Hid (∀ w', wb.grownBy w' none → HomeAt w' h c F H) := qh fun w' h' => A.grown (grown_trans hgb h')
  have hbx : wb.heap[w.heap.size]? = some (.cells (na n) 31 (0, 0)) := by rw [← hwb]; exact heap_alloc_new _ _
  have HR : Hid (∀ w', wb.grownBy w' none → w'.rangeAt w.heap.size 0 (nt n)) := qh fun w' h => tt.range_grown (tt.range_of hbx) h (by simp)
  have HM : Hid (∀ w', wb.grownBy w' none → _) := qh fun w' h' => hfits_any (HA.out w' h') ((hK.grown hgb).grown h') n
  have HG := qh hgb
  have HL : Hid (h < w.heap.size) := qh A.lt
  have HX : Hid (w.heap.size < wb.heap.size) := qh (lt_of hbx)
  rw [decide_eq_true hf] at HM
  have HK : Hid (∀ w', wb.grownBy w' none → (w'.cell? ⟨h, 0, none⟩ = some (.int .i64 c.co) ∧ w'.cell? ⟨h, 3, none⟩ = some (.map (some F.ub)) ∧ w'.cell? ⟨h, 4, none⟩ = some (.pointer (some ⟨F.pb, 0, none⟩))) ∧ (w'.cell? ⟨w.heap.size, 0, none⟩ = some (.int .u8 n.k) ∧ w'.cell? ⟨w.heap.size, 1, none⟩ = some (.int .i64 n.f) ∧ w'.cell? ⟨w.heap.size, 3, none⟩ = some (.int .i64 n.b)) ∧ (Instr.lookup 83 (.map (some F.ub)) (.int .i64 n.b) true).run Tryd.prog w' = .ok (.tuple #[.agg #[.int .u8 a0, .int .i64 a1, .int .u32 (a2 : Int), .bool a3, .int .u64 a4], .bool is]) w') := qh fun w' h' => by
    have hA := HA.out w' h'
    have hb := (blk_lt hf.1).1
    refine ⟨⟨hA.cells.1, hA.cells.2.2.2.1, hA.cells.2.2.2.2⟩, ⟨tt.cell_at (HR.out w' h') 0 _ rfl, tt.cell_at (HR.out w' h') 1 _ rfl, tt.cell_at (HR.out w' h') 3 _ rfl⟩, ?_⟩
    have := hA.look n.b.toNat
    rw [Int.toNat_of_nonneg hb, hx, hi] at this
    exact this
  have e9 : (n.k == 9) = true := by rw [hk]; rfl
  have HQ : Hid (∀ w, _) := qh fun w => mm.has_any a2 n.f w hm
  rw [hh] at HQ
  clear hk hm hh
  have HHX := qh hx
  have HHI := qh hi
  clear A hK hgb hbx hf hx hi
  go_enter Tryd.func18, Tryd.ntmps18
  go_wp2_with (first
    | ((with_reducible refine tt.load_nt n _ w.heap.size ?_ (HR.out _ (grown_refl _ _)) ?_); (rfl))
    | (go_at_call 40; ((with_reducible refine (HM.out _ (grown_refl _ _)).mono ?_); rintro e w1 ⟨rfl, hg1⟩; have HG1 := qh hg1; clear hg1)))
  refine wp_region_held_drew (S := fun w' => wb.grownBy w' none) (by kernel_rfl) (tt.grown_drew HG1.out) (fun hHeld => ?_)
  generalize w1.drew = wd at hHeld ⊢
  have HD := qh hHeld
  refine hh.tl 0 ⟨some 14, Op.move (.tmp 0), _, _, _, _⟩ ?v12 rfl ?hy12 ?_
  case hy12 => ((intro w0 hSw; obtain ⟨⟨hs0, hs1, hs2⟩, ⟨hs3, hs4, hs5⟩, hs6⟩ := HK.out w0 hSw; go_simp); try (with_reducible rfl))
  try simp only [lay]
  refine hh.tl 1 ⟨some 15, Op.nilCheck (.tmp 14), _, _, _, _⟩ ?v13 rfl ?hy13 ?_
  case hy13 => ((intro w0 hSw; obtain ⟨⟨hs0, hs1, hs2⟩, ⟨hs3, hs4, hs5⟩, hs6⟩ := HK.out w0 hSw; go_simp); try (with_reducible rfl))
  try simp only [lay]
  refine hh.tl 2 ⟨some 16, Op.fieldAddr 86 (.tmp 15) 3, _, _, _, _⟩ ?v14 rfl ?hy14 ?_
  case hy14 => ((intro w0 hSw; obtain ⟨⟨hs0, hs1, hs2⟩, ⟨hs3, hs4, hs5⟩, hs6⟩ := HK.out w0 hSw; go_simp); try (with_reducible rfl))
  try simp only [lay]
  refine hh.tl 3 ⟨some 17, Op.load 83 (.tmp 16), _, _, _, _⟩ ?v15 rfl ?hy15 ?_
  case hy15 => ((intro w0 hSw; obtain ⟨⟨hs0, hs1, hs2⟩, ⟨hs3, hs4, hs5⟩, hs6⟩ := HK.out w0 hSw; go_simp); try (with_reducible rfl))
  try simp only [lay]
  refine hh.tl 4 ⟨some 18, Op.fieldAddr 31 (.tmp 3) 3, _, _, _, _⟩ ?v16 rfl ?hy16 ?_
  case hy16 => ((intro w0 hSw; obtain ⟨⟨hs0, hs1, hs2⟩, ⟨hs3, hs4, hs5⟩, hs6⟩ := HK.out w0 hSw; go_simp); try (with_reducible rfl))
  try simp only [lay]
  refine hh.tl 5 ⟨some 19, Op.load 3 (.tmp 18), _, _, _, _⟩ ?v17 rfl ?hy17 ?_
  case hy17 => ((intro w0 hSw; obtain ⟨⟨hs0, hs1, hs2⟩, ⟨hs3, hs4, hs5⟩, hs6⟩ := HK.out w0 hSw; go_simp); try (with_reducible rfl))
  try simp only [lay]
  refine hh.tl 6 ⟨some 20, Op.lookup 83 (.tmp 17) (.tmp 19) true, _, _, _, _⟩ ?v18 rfl ?hy18 ?_
  case hy18 => ((intro w0 hSw; obtain ⟨⟨hs0, hs1, hs2⟩, ⟨hs3, hs4, hs5⟩, hs6⟩ := HK.out w0 hSw; go_simp); try (with_reducible rfl))
  try simp only [lay]
  refine hh.tl 7 ⟨some 13, Op.move (.tmp 20), _, _, _, _⟩ ?v19 rfl ?hy19 ?_
  case hy19 => ((intro w0 hSw; obtain ⟨⟨hs0, hs1, hs2⟩, ⟨hs3, hs4, hs5⟩, hs6⟩ := HK.out w0 hSw; go_simp); try (with_reducible rfl))
  try simp only [lay]
  refine hh.tl 8 ⟨some 21, Op.extract (.tmp 13) 0, _, _, _, _⟩ ?v20 rfl ?hy20 ?_
  case hy20 => ((intro w0 hSw; obtain ⟨⟨hs0, hs1, hs2⟩, ⟨hs3, hs4, hs5⟩, hs6⟩ := HK.out w0 hSw; go_simp); try (with_reducible rfl))
  try simp only [lay]
  refine hh.tl 9 ⟨some 22, Op.extract (.tmp 13) 1, _, _, _, _⟩ ?v21 rfl ?hy21 ?_
  case hy21 => ((intro w0 hSw; obtain ⟨⟨hs0, hs1, hs2⟩, ⟨hs3, hs4, hs5⟩, hs6⟩ := HK.out w0 hSw; go_simp); try (with_reducible rfl))
  try simp only [lay]
  refine rd1 (i := 10) (o := ⟨some 5, Op.alloc 80, _, _, _, _⟩) rfl (fun K hK => ?_)
  go_simp
  refine hK.out _ _ (grown_alloc hHeld _) (fun hHeld => ?_)
  clear hK K
  try simp only [lay]
  refine rd1 (i := 11) (o := ⟨none, Op.store 80 (.tmp 5) (.tmp 21), _, _, _, _⟩) rfl (fun K hK => ?_)
  go_simp
  refine hK.out _ _ (grown_alloc HD.out _) (fun hHeld => ?_)
  clear hK K
  try simp only [lay]
  refine hh.tl 12 ⟨some 6, Op.assign (.tmp 22), _, _, _, _⟩ ?v22 rfl ?hy22 ?_
  case hy22 => ((intro w0 hSw; go_simp); try (with_reducible rfl))
  try simp only [lay]
  refine wpAnyH_done (by kernel_rfl) ?_ _
  obtain ⟨⟨f0, f1, f2⟩, ⟨f3, f4, f5⟩, f6⟩ := HK.out wd HD.out
  have hlt : w.heap.size < wd.heap.size := Nat.lt_of_lt_of_le HX.out HD.out.size
  have hne : ¬ w.heap.size = wd.heap.size := Nat.ne_of_lt hlt
  have hht : h < wd.heap.size := Nat.lt_trans HL.out hlt
  have hhe : ¬ h = wd.heap.size := Nat.ne_of_lt hht
  go_wp2_with (go_at_call 41; ((with_reducible refine (HQ.out _).mono ?_); rintro e w5 ⟨rfl, rfl⟩))
  go_ret
  exact ⟨rfl, grown_trans HG.out (grown_alloc HD.out _)⟩
set_option maxRecDepth 1000000 in
set_option maxHeartbeats 2000000 in
theorem ready_10_t (A : HomeAt w h c F H) (hK : tt.TabK w) (n : Nt) (hf : fits c n ∧ n.t = -1) (a0 a1 : Int) (a2 : Nat) (a3 : Bool) (a4 : Int) (is : Bool) (hx : askOr H n.b.toNat = #[.int .u8 a0, .int .i64 a1, .int .u32 (a2 : Int), .bool a3, .int .u64 a4]) (hi : (jbOf H n.b.toNat).isSome = is) (hk : n.k = 10) (hm : a2 < 4294967296) (hh : mm.ha a2 n.f = true) : Calls Tryd.prog 18 #[.pointer (some ⟨h, 0, none⟩), .agg (na n)] w fun e w' => e = .returned (.int .i64 0) ∧ w.grownBy w' none := by
  obtain ⟨wb, hwb⟩ : ∃ wb, w.alloc (.cells (na n) 31) = wb := ⟨_, rfl⟩
  have hgb : w.grownBy wb none := by rw [← hwb]; exact grown_alloc (grown_refl _ _) _
  have HA : Hid (∀ w', wb.grownBy w' none → HomeAt w' h c F H) := qh fun w' h' => A.grown (grown_trans hgb h')
  have hbx : wb.heap[w.heap.size]? = some (.cells (na n) 31 (0, 0)) := by rw [← hwb]; exact heap_alloc_new _ _
  have HR : Hid (∀ w', wb.grownBy w' none → w'.rangeAt w.heap.size 0 (nt n)) := qh fun w' h => tt.range_grown (tt.range_of hbx) h (by simp)
  have HM : Hid (∀ w', wb.grownBy w' none → _) := qh fun w' h' => hfits_any (HA.out w' h') ((hK.grown hgb).grown h') n
  have HG := qh hgb
  have HL : Hid (h < w.heap.size) := qh A.lt
  have HX : Hid (w.heap.size < wb.heap.size) := qh (lt_of hbx)
  rw [decide_eq_true hf] at HM
  have HK : Hid (∀ w', wb.grownBy w' none → (w'.cell? ⟨h, 0, none⟩ = some (.int .i64 c.co) ∧ w'.cell? ⟨h, 3, none⟩ = some (.map (some F.ub)) ∧ w'.cell? ⟨h, 4, none⟩ = some (.pointer (some ⟨F.pb, 0, none⟩))) ∧ (w'.cell? ⟨w.heap.size, 0, none⟩ = some (.int .u8 n.k) ∧ w'.cell? ⟨w.heap.size, 1, none⟩ = some (.int .i64 n.f) ∧ w'.cell? ⟨w.heap.size, 3, none⟩ = some (.int .i64 n.b)) ∧ (Instr.lookup 83 (.map (some F.ub)) (.int .i64 n.b) true).run Tryd.prog w' = .ok (.tuple #[.agg #[.int .u8 a0, .int .i64 a1, .int .u32 (a2 : Int), .bool a3, .int .u64 a4], .bool is]) w') := qh fun w' h' => by
    have hA := HA.out w' h'
    have hb := (blk_lt hf.1).1
    refine ⟨⟨hA.cells.1, hA.cells.2.2.2.1, hA.cells.2.2.2.2⟩, ⟨tt.cell_at (HR.out w' h') 0 _ rfl, tt.cell_at (HR.out w' h') 1 _ rfl, tt.cell_at (HR.out w' h') 3 _ rfl⟩, ?_⟩
    have := hA.look n.b.toNat
    rw [Int.toNat_of_nonneg hb, hx, hi] at this
    exact this
  have e9 : (n.k == 9) = false := by rw [hk]; rfl
  have e10 : (n.k == 10) = true := by rw [hk]; rfl
  have HQ : Hid (∀ w, _) := qh fun w => mm.has_any a2 n.f w hm
  rw [hh] at HQ
  clear hk hm hh
  have HHX := qh hx
  have HHI := qh hi
  clear A hK hgb hbx hf hx hi
  go_enter Tryd.func18, Tryd.ntmps18
  go_wp2_with (first
    | ((with_reducible refine tt.load_nt n _ w.heap.size ?_ (HR.out _ (grown_refl _ _)) ?_); (rfl))
    | (go_at_call 40; ((with_reducible refine (HM.out _ (grown_refl _ _)).mono ?_); rintro e w1 ⟨rfl, hg1⟩; have HG1 := qh hg1; clear hg1)))
  refine wp_region_held_drew (S := fun w' => wb.grownBy w' none) (by kernel_rfl) (tt.grown_drew HG1.out) (fun hHeld => ?_)
  generalize w1.drew = wd at hHeld ⊢
  have HD := qh hHeld
  refine hh.tl 0 ⟨some 14, Op.move (.tmp 0), _, _, _, _⟩ ?v23 rfl ?hy23 ?_
  case hy23 => ((intro w0 hSw; obtain ⟨⟨hs0, hs1, hs2⟩, ⟨hs3, hs4, hs5⟩, hs6⟩ := HK.out w0 hSw; go_simp); try (with_reducible rfl))
  try simp only [lay]
  refine hh.tl 1 ⟨some 15, Op.nilCheck (.tmp 14), _, _, _, _⟩ ?v24 rfl ?hy24 ?_
  case hy24 => ((intro w0 hSw; obtain ⟨⟨hs0, hs1, hs2⟩, ⟨hs3, hs4, hs5⟩, hs6⟩ := HK.out w0 hSw; go_simp); try (with_reducible rfl))
  try simp only [lay]
  refine hh.tl 2 ⟨some 16, Op.fieldAddr 86 (.tmp 15) 3, _, _, _, _⟩ ?v25 rfl ?hy25 ?_
  case hy25 => ((intro w0 hSw; obtain ⟨⟨hs0, hs1, hs2⟩, ⟨hs3, hs4, hs5⟩, hs6⟩ := HK.out w0 hSw; go_simp); try (with_reducible rfl))
  try simp only [lay]
  refine hh.tl 3 ⟨some 17, Op.load 83 (.tmp 16), _, _, _, _⟩ ?v26 rfl ?hy26 ?_
  case hy26 => ((intro w0 hSw; obtain ⟨⟨hs0, hs1, hs2⟩, ⟨hs3, hs4, hs5⟩, hs6⟩ := HK.out w0 hSw; go_simp); try (with_reducible rfl))
  try simp only [lay]
  refine hh.tl 4 ⟨some 18, Op.fieldAddr 31 (.tmp 3) 3, _, _, _, _⟩ ?v27 rfl ?hy27 ?_
  case hy27 => ((intro w0 hSw; obtain ⟨⟨hs0, hs1, hs2⟩, ⟨hs3, hs4, hs5⟩, hs6⟩ := HK.out w0 hSw; go_simp); try (with_reducible rfl))
  try simp only [lay]
  refine hh.tl 5 ⟨some 19, Op.load 3 (.tmp 18), _, _, _, _⟩ ?v28 rfl ?hy28 ?_
  case hy28 => ((intro w0 hSw; obtain ⟨⟨hs0, hs1, hs2⟩, ⟨hs3, hs4, hs5⟩, hs6⟩ := HK.out w0 hSw; go_simp); try (with_reducible rfl))
  try simp only [lay]
  refine hh.tl 6 ⟨some 20, Op.lookup 83 (.tmp 17) (.tmp 19) true, _, _, _, _⟩ ?v29 rfl ?hy29 ?_
  case hy29 => ((intro w0 hSw; obtain ⟨⟨hs0, hs1, hs2⟩, ⟨hs3, hs4, hs5⟩, hs6⟩ := HK.out w0 hSw; go_simp); try (with_reducible rfl))
  try simp only [lay]
  refine hh.tl 7 ⟨some 13, Op.move (.tmp 20), _, _, _, _⟩ ?v30 rfl ?hy30 ?_
  case hy30 => ((intro w0 hSw; obtain ⟨⟨hs0, hs1, hs2⟩, ⟨hs3, hs4, hs5⟩, hs6⟩ := HK.out w0 hSw; go_simp); try (with_reducible rfl))
  try simp only [lay]
  refine hh.tl 8 ⟨some 21, Op.extract (.tmp 13) 0, _, _, _, _⟩ ?v31 rfl ?hy31 ?_
  case hy31 => ((intro w0 hSw; obtain ⟨⟨hs0, hs1, hs2⟩, ⟨hs3, hs4, hs5⟩, hs6⟩ := HK.out w0 hSw; go_simp); try (with_reducible rfl))
  try simp only [lay]
  refine hh.tl 9 ⟨some 22, Op.extract (.tmp 13) 1, _, _, _, _⟩ ?v32 rfl ?hy32 ?_
  case hy32 => ((intro w0 hSw; obtain ⟨⟨hs0, hs1, hs2⟩, ⟨hs3, hs4, hs5⟩, hs6⟩ := HK.out w0 hSw; go_simp); try (with_reducible rfl))
  try simp only [lay]
  refine rd1 (i := 10) (o := ⟨some 5, Op.alloc 80, _, _, _, _⟩) rfl (fun K hK => ?_)
  go_simp
  refine hK.out _ _ (grown_alloc hHeld _) (fun hHeld => ?_)
  clear hK K
  try simp only [lay]
  refine rd1 (i := 11) (o := ⟨none, Op.store 80 (.tmp 5) (.tmp 21), _, _, _, _⟩) rfl (fun K hK => ?_)
  go_simp
  refine hK.out _ _ (grown_alloc HD.out _) (fun hHeld => ?_)
  clear hK K
  try simp only [lay]
  refine hh.tl 12 ⟨some 6, Op.assign (.tmp 22), _, _, _, _⟩ ?v33 rfl ?hy33 ?_
  case hy33 => ((intro w0 hSw; go_simp); try (with_reducible rfl))
  try simp only [lay]
  refine wpAnyH_done (by kernel_rfl) ?_ _
  obtain ⟨⟨f0, f1, f2⟩, ⟨f3, f4, f5⟩, f6⟩ := HK.out wd HD.out
  have hlt : w.heap.size < wd.heap.size := Nat.lt_of_lt_of_le HX.out HD.out.size
  have hne : ¬ w.heap.size = wd.heap.size := Nat.ne_of_lt hlt
  have hht : h < wd.heap.size := Nat.lt_trans HL.out hlt
  have hhe : ¬ h = wd.heap.size := Nat.ne_of_lt hht
  go_wp2_with (go_at_call 41; ((with_reducible refine (HQ.out _).mono ?_); rintro e w5 ⟨rfl, rfl⟩))
  go_ret
  exact ⟨rfl, grown_trans HG.out (grown_alloc HD.out _)⟩
set_option maxRecDepth 1000000 in
set_option maxHeartbeats 2000000 in
theorem ready_10_f (A : HomeAt w h c F H) (hK : tt.TabK w) (n : Nt) (hf : fits c n ∧ n.t = -1) (a0 a1 : Int) (a2 : Nat) (a3 : Bool) (a4 : Int) (is : Bool) (hx : askOr H n.b.toNat = #[.int .u8 a0, .int .i64 a1, .int .u32 (a2 : Int), .bool a3, .int .u64 a4]) (hi : (jbOf H n.b.toNat).isSome = is) (hk : n.k = 10) (hm : a2 < 4294967296) (hh : mm.ha a2 n.f = false) : Calls Tryd.prog 18 #[.pointer (some ⟨h, 0, none⟩), .agg (na n)] w fun e w' => e = .returned (.int .i64 8) ∧ w.grownBy w' none := by
  obtain ⟨wb, hwb⟩ : ∃ wb, w.alloc (.cells (na n) 31) = wb := ⟨_, rfl⟩
  have hgb : w.grownBy wb none := by rw [← hwb]; exact grown_alloc (grown_refl _ _) _
  have HA : Hid (∀ w', wb.grownBy w' none → HomeAt w' h c F H) := qh fun w' h' => A.grown (grown_trans hgb h')
  have hbx : wb.heap[w.heap.size]? = some (.cells (na n) 31 (0, 0)) := by rw [← hwb]; exact heap_alloc_new _ _
  have HR : Hid (∀ w', wb.grownBy w' none → w'.rangeAt w.heap.size 0 (nt n)) := qh fun w' h => tt.range_grown (tt.range_of hbx) h (by simp)
  have HM : Hid (∀ w', wb.grownBy w' none → _) := qh fun w' h' => hfits_any (HA.out w' h') ((hK.grown hgb).grown h') n
  have HG := qh hgb
  have HL : Hid (h < w.heap.size) := qh A.lt
  have HX : Hid (w.heap.size < wb.heap.size) := qh (lt_of hbx)
  rw [decide_eq_true hf] at HM
  have HK : Hid (∀ w', wb.grownBy w' none → (w'.cell? ⟨h, 0, none⟩ = some (.int .i64 c.co) ∧ w'.cell? ⟨h, 3, none⟩ = some (.map (some F.ub)) ∧ w'.cell? ⟨h, 4, none⟩ = some (.pointer (some ⟨F.pb, 0, none⟩))) ∧ (w'.cell? ⟨w.heap.size, 0, none⟩ = some (.int .u8 n.k) ∧ w'.cell? ⟨w.heap.size, 1, none⟩ = some (.int .i64 n.f) ∧ w'.cell? ⟨w.heap.size, 3, none⟩ = some (.int .i64 n.b)) ∧ (Instr.lookup 83 (.map (some F.ub)) (.int .i64 n.b) true).run Tryd.prog w' = .ok (.tuple #[.agg #[.int .u8 a0, .int .i64 a1, .int .u32 (a2 : Int), .bool a3, .int .u64 a4], .bool is]) w') := qh fun w' h' => by
    have hA := HA.out w' h'
    have hb := (blk_lt hf.1).1
    refine ⟨⟨hA.cells.1, hA.cells.2.2.2.1, hA.cells.2.2.2.2⟩, ⟨tt.cell_at (HR.out w' h') 0 _ rfl, tt.cell_at (HR.out w' h') 1 _ rfl, tt.cell_at (HR.out w' h') 3 _ rfl⟩, ?_⟩
    have := hA.look n.b.toNat
    rw [Int.toNat_of_nonneg hb, hx, hi] at this
    exact this
  have e9 : (n.k == 9) = false := by rw [hk]; rfl
  have e10 : (n.k == 10) = true := by rw [hk]; rfl
  have HQ : Hid (∀ w, _) := qh fun w => mm.has_any a2 n.f w hm
  rw [hh] at HQ
  clear hk hm hh
  have HHX := qh hx
  have HHI := qh hi
  clear A hK hgb hbx hf hx hi
  go_enter Tryd.func18, Tryd.ntmps18
  go_wp2_with (first
    | ((with_reducible refine tt.load_nt n _ w.heap.size ?_ (HR.out _ (grown_refl _ _)) ?_); (rfl))
    | (go_at_call 40; ((with_reducible refine (HM.out _ (grown_refl _ _)).mono ?_); rintro e w1 ⟨rfl, hg1⟩; have HG1 := qh hg1; clear hg1)))
  refine wp_region_held_drew (S := fun w' => wb.grownBy w' none) (by kernel_rfl) (tt.grown_drew HG1.out) (fun hHeld => ?_)
  generalize w1.drew = wd at hHeld ⊢
  have HD := qh hHeld
  refine hh.tl 0 ⟨some 14, Op.move (.tmp 0), _, _, _, _⟩ ?v34 rfl ?hy34 ?_
  case hy34 => ((intro w0 hSw; obtain ⟨⟨hs0, hs1, hs2⟩, ⟨hs3, hs4, hs5⟩, hs6⟩ := HK.out w0 hSw; go_simp); try (with_reducible rfl))
  try simp only [lay]
  refine hh.tl 1 ⟨some 15, Op.nilCheck (.tmp 14), _, _, _, _⟩ ?v35 rfl ?hy35 ?_
  case hy35 => ((intro w0 hSw; obtain ⟨⟨hs0, hs1, hs2⟩, ⟨hs3, hs4, hs5⟩, hs6⟩ := HK.out w0 hSw; go_simp); try (with_reducible rfl))
  try simp only [lay]
  refine hh.tl 2 ⟨some 16, Op.fieldAddr 86 (.tmp 15) 3, _, _, _, _⟩ ?v36 rfl ?hy36 ?_
  case hy36 => ((intro w0 hSw; obtain ⟨⟨hs0, hs1, hs2⟩, ⟨hs3, hs4, hs5⟩, hs6⟩ := HK.out w0 hSw; go_simp); try (with_reducible rfl))
  try simp only [lay]
  refine hh.tl 3 ⟨some 17, Op.load 83 (.tmp 16), _, _, _, _⟩ ?v37 rfl ?hy37 ?_
  case hy37 => ((intro w0 hSw; obtain ⟨⟨hs0, hs1, hs2⟩, ⟨hs3, hs4, hs5⟩, hs6⟩ := HK.out w0 hSw; go_simp); try (with_reducible rfl))
  try simp only [lay]
  refine hh.tl 4 ⟨some 18, Op.fieldAddr 31 (.tmp 3) 3, _, _, _, _⟩ ?v38 rfl ?hy38 ?_
  case hy38 => ((intro w0 hSw; obtain ⟨⟨hs0, hs1, hs2⟩, ⟨hs3, hs4, hs5⟩, hs6⟩ := HK.out w0 hSw; go_simp); try (with_reducible rfl))
  try simp only [lay]
  refine hh.tl 5 ⟨some 19, Op.load 3 (.tmp 18), _, _, _, _⟩ ?v39 rfl ?hy39 ?_
  case hy39 => ((intro w0 hSw; obtain ⟨⟨hs0, hs1, hs2⟩, ⟨hs3, hs4, hs5⟩, hs6⟩ := HK.out w0 hSw; go_simp); try (with_reducible rfl))
  try simp only [lay]
  refine hh.tl 6 ⟨some 20, Op.lookup 83 (.tmp 17) (.tmp 19) true, _, _, _, _⟩ ?v40 rfl ?hy40 ?_
  case hy40 => ((intro w0 hSw; obtain ⟨⟨hs0, hs1, hs2⟩, ⟨hs3, hs4, hs5⟩, hs6⟩ := HK.out w0 hSw; go_simp); try (with_reducible rfl))
  try simp only [lay]
  refine hh.tl 7 ⟨some 13, Op.move (.tmp 20), _, _, _, _⟩ ?v41 rfl ?hy41 ?_
  case hy41 => ((intro w0 hSw; obtain ⟨⟨hs0, hs1, hs2⟩, ⟨hs3, hs4, hs5⟩, hs6⟩ := HK.out w0 hSw; go_simp); try (with_reducible rfl))
  try simp only [lay]
  refine hh.tl 8 ⟨some 21, Op.extract (.tmp 13) 0, _, _, _, _⟩ ?v42 rfl ?hy42 ?_
  case hy42 => ((intro w0 hSw; obtain ⟨⟨hs0, hs1, hs2⟩, ⟨hs3, hs4, hs5⟩, hs6⟩ := HK.out w0 hSw; go_simp); try (with_reducible rfl))
  try simp only [lay]
  refine hh.tl 9 ⟨some 22, Op.extract (.tmp 13) 1, _, _, _, _⟩ ?v43 rfl ?hy43 ?_
  case hy43 => ((intro w0 hSw; obtain ⟨⟨hs0, hs1, hs2⟩, ⟨hs3, hs4, hs5⟩, hs6⟩ := HK.out w0 hSw; go_simp); try (with_reducible rfl))
  try simp only [lay]
  refine rd1 (i := 10) (o := ⟨some 5, Op.alloc 80, _, _, _, _⟩) rfl (fun K hK => ?_)
  go_simp
  refine hK.out _ _ (grown_alloc hHeld _) (fun hHeld => ?_)
  clear hK K
  try simp only [lay]
  refine rd1 (i := 11) (o := ⟨none, Op.store 80 (.tmp 5) (.tmp 21), _, _, _, _⟩) rfl (fun K hK => ?_)
  go_simp
  refine hK.out _ _ (grown_alloc HD.out _) (fun hHeld => ?_)
  clear hK K
  try simp only [lay]
  refine hh.tl 12 ⟨some 6, Op.assign (.tmp 22), _, _, _, _⟩ ?v44 rfl ?hy44 ?_
  case hy44 => ((intro w0 hSw; go_simp); try (with_reducible rfl))
  try simp only [lay]
  refine wpAnyH_done (by kernel_rfl) ?_ _
  obtain ⟨⟨f0, f1, f2⟩, ⟨f3, f4, f5⟩, f6⟩ := HK.out wd HD.out
  have hlt : w.heap.size < wd.heap.size := Nat.lt_of_lt_of_le HX.out HD.out.size
  have hne : ¬ w.heap.size = wd.heap.size := Nat.ne_of_lt hlt
  have hht : h < wd.heap.size := Nat.lt_trans HL.out hlt
  have hhe : ¬ h = wd.heap.size := Nat.ne_of_lt hht
  go_wp2_with (go_at_call 41; ((with_reducible refine (HQ.out _).mono ?_); rintro e w5 ⟨rfl, rfl⟩))
  go_ret
  exact ⟨rfl, grown_trans HG.out (grown_alloc HD.out _)⟩
set_option maxRecDepth 1000000 in
set_option maxHeartbeats 2000000 in
theorem ready_11_no (A : HomeAt w h c F H) (hK : tt.TabK w) (n : Nt) (hf : fits c n ∧ n.t = -1) (a0 a1 : Int) (a2 : Nat) (a3 : Bool) (a4 : Int) (is : Bool) (hx : askOr H n.b.toNat = #[.int .u8 a0, .int .i64 a1, .int .u32 (a2 : Int), .bool a3, .int .u64 a4]) (hi : (jbOf H n.b.toNat).isSome = is) (hk : n.k = 11) (hh : is = false) : Calls Tryd.prog 18 #[.pointer (some ⟨h, 0, none⟩), .agg (na n)] w fun e w' => e = .returned (.int .i64 8) ∧ w.grownBy w' none := by
  obtain ⟨wb, hwb⟩ : ∃ wb, w.alloc (.cells (na n) 31) = wb := ⟨_, rfl⟩
  have hgb : w.grownBy wb none := by rw [← hwb]; exact grown_alloc (grown_refl _ _) _
  have HA : Hid (∀ w', wb.grownBy w' none → HomeAt w' h c F H) := qh fun w' h' => A.grown (grown_trans hgb h')
  have hbx : wb.heap[w.heap.size]? = some (.cells (na n) 31 (0, 0)) := by rw [← hwb]; exact heap_alloc_new _ _
  have HR : Hid (∀ w', wb.grownBy w' none → w'.rangeAt w.heap.size 0 (nt n)) := qh fun w' h => tt.range_grown (tt.range_of hbx) h (by simp)
  have HM : Hid (∀ w', wb.grownBy w' none → _) := qh fun w' h' => hfits_any (HA.out w' h') ((hK.grown hgb).grown h') n
  have HG := qh hgb
  have HL : Hid (h < w.heap.size) := qh A.lt
  have HX : Hid (w.heap.size < wb.heap.size) := qh (lt_of hbx)
  rw [decide_eq_true hf] at HM
  have HK : Hid (∀ w', wb.grownBy w' none → (w'.cell? ⟨h, 0, none⟩ = some (.int .i64 c.co) ∧ w'.cell? ⟨h, 3, none⟩ = some (.map (some F.ub)) ∧ w'.cell? ⟨h, 4, none⟩ = some (.pointer (some ⟨F.pb, 0, none⟩))) ∧ (w'.cell? ⟨w.heap.size, 0, none⟩ = some (.int .u8 n.k) ∧ w'.cell? ⟨w.heap.size, 1, none⟩ = some (.int .i64 n.f) ∧ w'.cell? ⟨w.heap.size, 3, none⟩ = some (.int .i64 n.b)) ∧ (Instr.lookup 83 (.map (some F.ub)) (.int .i64 n.b) true).run Tryd.prog w' = .ok (.tuple #[.agg #[.int .u8 a0, .int .i64 a1, .int .u32 (a2 : Int), .bool a3, .int .u64 a4], .bool is]) w') := qh fun w' h' => by
    have hA := HA.out w' h'
    have hb := (blk_lt hf.1).1
    refine ⟨⟨hA.cells.1, hA.cells.2.2.2.1, hA.cells.2.2.2.2⟩, ⟨tt.cell_at (HR.out w' h') 0 _ rfl, tt.cell_at (HR.out w' h') 1 _ rfl, tt.cell_at (HR.out w' h') 3 _ rfl⟩, ?_⟩
    have := hA.look n.b.toNat
    rw [Int.toNat_of_nonneg hb, hx, hi] at this
    exact this
  have e9 : (n.k == 9) = false := by rw [hk]; rfl
  have e10 : (n.k == 10) = false := by rw [hk]; rfl
  have e11 : (n.k == 11) = true := by rw [hk]; rfl
  subst hh
  clear hk
  have HHX := qh hx
  have HHI := qh hi
  clear A hK hgb hbx hf hx hi
  go_enter Tryd.func18, Tryd.ntmps18
  go_wp2_with (first
    | ((with_reducible refine tt.load_nt n _ w.heap.size ?_ (HR.out _ (grown_refl _ _)) ?_); (rfl))
    | (go_at_call 40; ((with_reducible refine (HM.out _ (grown_refl _ _)).mono ?_); rintro e w1 ⟨rfl, hg1⟩; have HG1 := qh hg1; clear hg1)))
  refine wp_region_held_drew (S := fun w' => wb.grownBy w' none) (by kernel_rfl) (tt.grown_drew HG1.out) (fun hHeld => ?_)
  generalize w1.drew = wd at hHeld ⊢
  have HD := qh hHeld
  refine hh.tl 0 ⟨some 14, Op.move (.tmp 0), _, _, _, _⟩ ?v45 rfl ?hy45 ?_
  case hy45 => ((intro w0 hSw; obtain ⟨⟨hs0, hs1, hs2⟩, ⟨hs3, hs4, hs5⟩, hs6⟩ := HK.out w0 hSw; go_simp); try (with_reducible rfl))
  try simp only [lay]
  refine hh.tl 1 ⟨some 15, Op.nilCheck (.tmp 14), _, _, _, _⟩ ?v46 rfl ?hy46 ?_
  case hy46 => ((intro w0 hSw; obtain ⟨⟨hs0, hs1, hs2⟩, ⟨hs3, hs4, hs5⟩, hs6⟩ := HK.out w0 hSw; go_simp); try (with_reducible rfl))
  try simp only [lay]
  refine hh.tl 2 ⟨some 16, Op.fieldAddr 86 (.tmp 15) 3, _, _, _, _⟩ ?v47 rfl ?hy47 ?_
  case hy47 => ((intro w0 hSw; obtain ⟨⟨hs0, hs1, hs2⟩, ⟨hs3, hs4, hs5⟩, hs6⟩ := HK.out w0 hSw; go_simp); try (with_reducible rfl))
  try simp only [lay]
  refine hh.tl 3 ⟨some 17, Op.load 83 (.tmp 16), _, _, _, _⟩ ?v48 rfl ?hy48 ?_
  case hy48 => ((intro w0 hSw; obtain ⟨⟨hs0, hs1, hs2⟩, ⟨hs3, hs4, hs5⟩, hs6⟩ := HK.out w0 hSw; go_simp); try (with_reducible rfl))
  try simp only [lay]
  refine hh.tl 4 ⟨some 18, Op.fieldAddr 31 (.tmp 3) 3, _, _, _, _⟩ ?v49 rfl ?hy49 ?_
  case hy49 => ((intro w0 hSw; obtain ⟨⟨hs0, hs1, hs2⟩, ⟨hs3, hs4, hs5⟩, hs6⟩ := HK.out w0 hSw; go_simp); try (with_reducible rfl))
  try simp only [lay]
  refine hh.tl 5 ⟨some 19, Op.load 3 (.tmp 18), _, _, _, _⟩ ?v50 rfl ?hy50 ?_
  case hy50 => ((intro w0 hSw; obtain ⟨⟨hs0, hs1, hs2⟩, ⟨hs3, hs4, hs5⟩, hs6⟩ := HK.out w0 hSw; go_simp); try (with_reducible rfl))
  try simp only [lay]
  refine hh.tl 6 ⟨some 20, Op.lookup 83 (.tmp 17) (.tmp 19) true, _, _, _, _⟩ ?v51 rfl ?hy51 ?_
  case hy51 => ((intro w0 hSw; obtain ⟨⟨hs0, hs1, hs2⟩, ⟨hs3, hs4, hs5⟩, hs6⟩ := HK.out w0 hSw; go_simp); try (with_reducible rfl))
  try simp only [lay]
  refine hh.tl 7 ⟨some 13, Op.move (.tmp 20), _, _, _, _⟩ ?v52 rfl ?hy52 ?_
  case hy52 => ((intro w0 hSw; obtain ⟨⟨hs0, hs1, hs2⟩, ⟨hs3, hs4, hs5⟩, hs6⟩ := HK.out w0 hSw; go_simp); try (with_reducible rfl))
  try simp only [lay]
  refine hh.tl 8 ⟨some 21, Op.extract (.tmp 13) 0, _, _, _, _⟩ ?v53 rfl ?hy53 ?_
  case hy53 => ((intro w0 hSw; obtain ⟨⟨hs0, hs1, hs2⟩, ⟨hs3, hs4, hs5⟩, hs6⟩ := HK.out w0 hSw; go_simp); try (with_reducible rfl))
  try simp only [lay]
  refine hh.tl 9 ⟨some 22, Op.extract (.tmp 13) 1, _, _, _, _⟩ ?v54 rfl ?hy54 ?_
  case hy54 => ((intro w0 hSw; obtain ⟨⟨hs0, hs1, hs2⟩, ⟨hs3, hs4, hs5⟩, hs6⟩ := HK.out w0 hSw; go_simp); try (with_reducible rfl))
  try simp only [lay]
  refine rd1 (i := 10) (o := ⟨some 5, Op.alloc 80, _, _, _, _⟩) rfl (fun K hK => ?_)
  go_simp
  refine hK.out _ _ (grown_alloc hHeld _) (fun hHeld => ?_)
  clear hK K
  try simp only [lay]
  refine rd1 (i := 11) (o := ⟨none, Op.store 80 (.tmp 5) (.tmp 21), _, _, _, _⟩) rfl (fun K hK => ?_)
  go_simp
  refine hK.out _ _ (grown_alloc HD.out _) (fun hHeld => ?_)
  clear hK K
  try simp only [lay]
  refine hh.tl 12 ⟨some 6, Op.assign (.tmp 22), _, _, _, _⟩ ?v55 rfl ?hy55 ?_
  case hy55 => ((intro w0 hSw; go_simp); try (with_reducible rfl))
  try simp only [lay]
  refine wpAnyH_done (by kernel_rfl) ?_ _
  obtain ⟨⟨f0, f1, f2⟩, ⟨f3, f4, f5⟩, f6⟩ := HK.out wd HD.out
  have hlt : w.heap.size < wd.heap.size := Nat.lt_of_lt_of_le HX.out HD.out.size
  have hne : ¬ w.heap.size = wd.heap.size := Nat.ne_of_lt hlt
  have hht : h < wd.heap.size := Nat.lt_trans HL.out hlt
  have hhe : ¬ h = wd.heap.size := Nat.ne_of_lt hht
  go_wp2_with (fail)
  go_ret
  exact ⟨rfl, grown_trans HG.out (grown_alloc HD.out _)⟩
set_option maxRecDepth 1000000 in
set_option maxHeartbeats 2000000 in
theorem ready_11_left (A : HomeAt w h c F H) (hK : tt.TabK w) (n : Nt) (hf : fits c n ∧ n.t = -1) (a0 a1 : Int) (a2 : Nat) (a3 : Bool) (a4 : Int) (is : Bool) (hx : askOr H n.b.toNat = #[.int .u8 a0, .int .i64 a1, .int .u32 (a2 : Int), .bool a3, .int .u64 a4]) (hi : (jbOf H n.b.toNat).isSome = is) (hk : n.k = 11) (hh : is = true) (h2 : ((a2 : Int) != 0) = true) : Calls Tryd.prog 18 #[.pointer (some ⟨h, 0, none⟩), .agg (na n)] w fun e w' => e = .returned (.int .i64 8) ∧ w.grownBy w' none := by
  obtain ⟨wb, hwb⟩ : ∃ wb, w.alloc (.cells (na n) 31) = wb := ⟨_, rfl⟩
  have hgb : w.grownBy wb none := by rw [← hwb]; exact grown_alloc (grown_refl _ _) _
  have HA : Hid (∀ w', wb.grownBy w' none → HomeAt w' h c F H) := qh fun w' h' => A.grown (grown_trans hgb h')
  have hbx : wb.heap[w.heap.size]? = some (.cells (na n) 31 (0, 0)) := by rw [← hwb]; exact heap_alloc_new _ _
  have HR : Hid (∀ w', wb.grownBy w' none → w'.rangeAt w.heap.size 0 (nt n)) := qh fun w' h => tt.range_grown (tt.range_of hbx) h (by simp)
  have HM : Hid (∀ w', wb.grownBy w' none → _) := qh fun w' h' => hfits_any (HA.out w' h') ((hK.grown hgb).grown h') n
  have HG := qh hgb
  have HL : Hid (h < w.heap.size) := qh A.lt
  have HX : Hid (w.heap.size < wb.heap.size) := qh (lt_of hbx)
  rw [decide_eq_true hf] at HM
  have HK : Hid (∀ w', wb.grownBy w' none → (w'.cell? ⟨h, 0, none⟩ = some (.int .i64 c.co) ∧ w'.cell? ⟨h, 3, none⟩ = some (.map (some F.ub)) ∧ w'.cell? ⟨h, 4, none⟩ = some (.pointer (some ⟨F.pb, 0, none⟩))) ∧ (w'.cell? ⟨w.heap.size, 0, none⟩ = some (.int .u8 n.k) ∧ w'.cell? ⟨w.heap.size, 1, none⟩ = some (.int .i64 n.f) ∧ w'.cell? ⟨w.heap.size, 3, none⟩ = some (.int .i64 n.b)) ∧ (Instr.lookup 83 (.map (some F.ub)) (.int .i64 n.b) true).run Tryd.prog w' = .ok (.tuple #[.agg #[.int .u8 a0, .int .i64 a1, .int .u32 (a2 : Int), .bool a3, .int .u64 a4], .bool is]) w') := qh fun w' h' => by
    have hA := HA.out w' h'
    have hb := (blk_lt hf.1).1
    refine ⟨⟨hA.cells.1, hA.cells.2.2.2.1, hA.cells.2.2.2.2⟩, ⟨tt.cell_at (HR.out w' h') 0 _ rfl, tt.cell_at (HR.out w' h') 1 _ rfl, tt.cell_at (HR.out w' h') 3 _ rfl⟩, ?_⟩
    have := hA.look n.b.toNat
    rw [Int.toNat_of_nonneg hb, hx, hi] at this
    exact this
  have e9 : (n.k == 9) = false := by rw [hk]; rfl
  have e10 : (n.k == 10) = false := by rw [hk]; rfl
  have e11 : (n.k == 11) = true := by rw [hk]; rfl
  subst hh
  clear hk
  have HHX := qh hx
  have HHI := qh hi
  clear A hK hgb hbx hf hx hi
  go_enter Tryd.func18, Tryd.ntmps18
  go_wp2_with (first
    | ((with_reducible refine tt.load_nt n _ w.heap.size ?_ (HR.out _ (grown_refl _ _)) ?_); (rfl))
    | (go_at_call 40; ((with_reducible refine (HM.out _ (grown_refl _ _)).mono ?_); rintro e w1 ⟨rfl, hg1⟩; have HG1 := qh hg1; clear hg1)))
  refine wp_region_held_drew (S := fun w' => wb.grownBy w' none) (by kernel_rfl) (tt.grown_drew HG1.out) (fun hHeld => ?_)
  generalize w1.drew = wd at hHeld ⊢
  have HD := qh hHeld
  refine hh.tl 0 ⟨some 14, Op.move (.tmp 0), _, _, _, _⟩ ?v56 rfl ?hy56 ?_
  case hy56 => ((intro w0 hSw; obtain ⟨⟨hs0, hs1, hs2⟩, ⟨hs3, hs4, hs5⟩, hs6⟩ := HK.out w0 hSw; go_simp); try (with_reducible rfl))
  try simp only [lay]
  refine hh.tl 1 ⟨some 15, Op.nilCheck (.tmp 14), _, _, _, _⟩ ?v57 rfl ?hy57 ?_
  case hy57 => ((intro w0 hSw; obtain ⟨⟨hs0, hs1, hs2⟩, ⟨hs3, hs4, hs5⟩, hs6⟩ := HK.out w0 hSw; go_simp); try (with_reducible rfl))
  try simp only [lay]
  refine hh.tl 2 ⟨some 16, Op.fieldAddr 86 (.tmp 15) 3, _, _, _, _⟩ ?v58 rfl ?hy58 ?_
  case hy58 => ((intro w0 hSw; obtain ⟨⟨hs0, hs1, hs2⟩, ⟨hs3, hs4, hs5⟩, hs6⟩ := HK.out w0 hSw; go_simp); try (with_reducible rfl))
  try simp only [lay]
  refine hh.tl 3 ⟨some 17, Op.load 83 (.tmp 16), _, _, _, _⟩ ?v59 rfl ?hy59 ?_
  case hy59 => ((intro w0 hSw; obtain ⟨⟨hs0, hs1, hs2⟩, ⟨hs3, hs4, hs5⟩, hs6⟩ := HK.out w0 hSw; go_simp); try (with_reducible rfl))
  try simp only [lay]
  refine hh.tl 4 ⟨some 18, Op.fieldAddr 31 (.tmp 3) 3, _, _, _, _⟩ ?v60 rfl ?hy60 ?_
  case hy60 => ((intro w0 hSw; obtain ⟨⟨hs0, hs1, hs2⟩, ⟨hs3, hs4, hs5⟩, hs6⟩ := HK.out w0 hSw; go_simp); try (with_reducible rfl))
  try simp only [lay]
  refine hh.tl 5 ⟨some 19, Op.load 3 (.tmp 18), _, _, _, _⟩ ?v61 rfl ?hy61 ?_
  case hy61 => ((intro w0 hSw; obtain ⟨⟨hs0, hs1, hs2⟩, ⟨hs3, hs4, hs5⟩, hs6⟩ := HK.out w0 hSw; go_simp); try (with_reducible rfl))
  try simp only [lay]
  refine hh.tl 6 ⟨some 20, Op.lookup 83 (.tmp 17) (.tmp 19) true, _, _, _, _⟩ ?v62 rfl ?hy62 ?_
  case hy62 => ((intro w0 hSw; obtain ⟨⟨hs0, hs1, hs2⟩, ⟨hs3, hs4, hs5⟩, hs6⟩ := HK.out w0 hSw; go_simp); try (with_reducible rfl))
  try simp only [lay]
  refine hh.tl 7 ⟨some 13, Op.move (.tmp 20), _, _, _, _⟩ ?v63 rfl ?hy63 ?_
  case hy63 => ((intro w0 hSw; obtain ⟨⟨hs0, hs1, hs2⟩, ⟨hs3, hs4, hs5⟩, hs6⟩ := HK.out w0 hSw; go_simp); try (with_reducible rfl))
  try simp only [lay]
  refine hh.tl 8 ⟨some 21, Op.extract (.tmp 13) 0, _, _, _, _⟩ ?v64 rfl ?hy64 ?_
  case hy64 => ((intro w0 hSw; obtain ⟨⟨hs0, hs1, hs2⟩, ⟨hs3, hs4, hs5⟩, hs6⟩ := HK.out w0 hSw; go_simp); try (with_reducible rfl))
  try simp only [lay]
  refine hh.tl 9 ⟨some 22, Op.extract (.tmp 13) 1, _, _, _, _⟩ ?v65 rfl ?hy65 ?_
  case hy65 => ((intro w0 hSw; obtain ⟨⟨hs0, hs1, hs2⟩, ⟨hs3, hs4, hs5⟩, hs6⟩ := HK.out w0 hSw; go_simp); try (with_reducible rfl))
  try simp only [lay]
  refine rd1 (i := 10) (o := ⟨some 5, Op.alloc 80, _, _, _, _⟩) rfl (fun K hK => ?_)
  go_simp
  refine hK.out _ _ (grown_alloc hHeld _) (fun hHeld => ?_)
  clear hK K
  try simp only [lay]
  refine rd1 (i := 11) (o := ⟨none, Op.store 80 (.tmp 5) (.tmp 21), _, _, _, _⟩) rfl (fun K hK => ?_)
  go_simp
  refine hK.out _ _ (grown_alloc HD.out _) (fun hHeld => ?_)
  clear hK K
  try simp only [lay]
  refine hh.tl 12 ⟨some 6, Op.assign (.tmp 22), _, _, _, _⟩ ?v66 rfl ?hy66 ?_
  case hy66 => ((intro w0 hSw; go_simp); try (with_reducible rfl))
  try simp only [lay]
  refine wpAnyH_done (by kernel_rfl) ?_ _
  obtain ⟨⟨f0, f1, f2⟩, ⟨f3, f4, f5⟩, f6⟩ := HK.out wd HD.out
  have hlt : w.heap.size < wd.heap.size := Nat.lt_of_lt_of_le HX.out HD.out.size
  have hne : ¬ w.heap.size = wd.heap.size := Nat.ne_of_lt hlt
  have hht : h < wd.heap.size := Nat.lt_trans HL.out hlt
  have hhe : ¬ h = wd.heap.size := Nat.ne_of_lt hht
  go_wp2_with (fail)
  go_ret
  exact ⟨rfl, grown_trans HG.out (grown_alloc HD.out _)⟩
set_option maxRecDepth 1000000 in
set_option maxHeartbeats 2000000 in
theorem ready_11_not (A : HomeAt w h c F H) (hK : tt.TabK w) (n : Nt) (hf : fits c n ∧ n.t = -1) (a0 a1 : Int) (a2 : Nat) (a3 : Bool) (a4 : Int) (is : Bool) (hx : askOr H n.b.toNat = #[.int .u8 a0, .int .i64 a1, .int .u32 (a2 : Int), .bool a3, .int .u64 a4]) (hi : (jbOf H n.b.toNat).isSome = is) (hk : n.k = 11) (hh : is = true) (h2 : ((a2 : Int) != 0) = false) (h3 : (a1 != n.f) = true) : Calls Tryd.prog 18 #[.pointer (some ⟨h, 0, none⟩), .agg (na n)] w fun e w' => e = .returned (.int .i64 8) ∧ w.grownBy w' none := by
  obtain ⟨wb, hwb⟩ : ∃ wb, w.alloc (.cells (na n) 31) = wb := ⟨_, rfl⟩
  have hgb : w.grownBy wb none := by rw [← hwb]; exact grown_alloc (grown_refl _ _) _
  have HA : Hid (∀ w', wb.grownBy w' none → HomeAt w' h c F H) := qh fun w' h' => A.grown (grown_trans hgb h')
  have hbx : wb.heap[w.heap.size]? = some (.cells (na n) 31 (0, 0)) := by rw [← hwb]; exact heap_alloc_new _ _
  have HR : Hid (∀ w', wb.grownBy w' none → w'.rangeAt w.heap.size 0 (nt n)) := qh fun w' h => tt.range_grown (tt.range_of hbx) h (by simp)
  have HM : Hid (∀ w', wb.grownBy w' none → _) := qh fun w' h' => hfits_any (HA.out w' h') ((hK.grown hgb).grown h') n
  have HG := qh hgb
  have HL : Hid (h < w.heap.size) := qh A.lt
  have HX : Hid (w.heap.size < wb.heap.size) := qh (lt_of hbx)
  rw [decide_eq_true hf] at HM
  have HK : Hid (∀ w', wb.grownBy w' none → (w'.cell? ⟨h, 0, none⟩ = some (.int .i64 c.co) ∧ w'.cell? ⟨h, 3, none⟩ = some (.map (some F.ub)) ∧ w'.cell? ⟨h, 4, none⟩ = some (.pointer (some ⟨F.pb, 0, none⟩))) ∧ (w'.cell? ⟨w.heap.size, 0, none⟩ = some (.int .u8 n.k) ∧ w'.cell? ⟨w.heap.size, 1, none⟩ = some (.int .i64 n.f) ∧ w'.cell? ⟨w.heap.size, 3, none⟩ = some (.int .i64 n.b)) ∧ (Instr.lookup 83 (.map (some F.ub)) (.int .i64 n.b) true).run Tryd.prog w' = .ok (.tuple #[.agg #[.int .u8 a0, .int .i64 a1, .int .u32 (a2 : Int), .bool a3, .int .u64 a4], .bool is]) w') := qh fun w' h' => by
    have hA := HA.out w' h'
    have hb := (blk_lt hf.1).1
    refine ⟨⟨hA.cells.1, hA.cells.2.2.2.1, hA.cells.2.2.2.2⟩, ⟨tt.cell_at (HR.out w' h') 0 _ rfl, tt.cell_at (HR.out w' h') 1 _ rfl, tt.cell_at (HR.out w' h') 3 _ rfl⟩, ?_⟩
    have := hA.look n.b.toNat
    rw [Int.toNat_of_nonneg hb, hx, hi] at this
    exact this
  have e9 : (n.k == 9) = false := by rw [hk]; rfl
  have e10 : (n.k == 10) = false := by rw [hk]; rfl
  have e11 : (n.k == 11) = true := by rw [hk]; rfl
  subst hh
  clear hk
  have HHX := qh hx
  have HHI := qh hi
  clear A hK hgb hbx hf hx hi
  go_enter Tryd.func18, Tryd.ntmps18
  go_wp2_with (first
    | ((with_reducible refine tt.load_nt n _ w.heap.size ?_ (HR.out _ (grown_refl _ _)) ?_); (rfl))
    | (go_at_call 40; ((with_reducible refine (HM.out _ (grown_refl _ _)).mono ?_); rintro e w1 ⟨rfl, hg1⟩; have HG1 := qh hg1; clear hg1)))
  refine wp_region_held_drew (S := fun w' => wb.grownBy w' none) (by kernel_rfl) (tt.grown_drew HG1.out) (fun hHeld => ?_)
  generalize w1.drew = wd at hHeld ⊢
  have HD := qh hHeld
  refine hh.tl 0 ⟨some 14, Op.move (.tmp 0), _, _, _, _⟩ ?v67 rfl ?hy67 ?_
  case hy67 => ((intro w0 hSw; obtain ⟨⟨hs0, hs1, hs2⟩, ⟨hs3, hs4, hs5⟩, hs6⟩ := HK.out w0 hSw; go_simp); try (with_reducible rfl))
  try simp only [lay]
  refine hh.tl 1 ⟨some 15, Op.nilCheck (.tmp 14), _, _, _, _⟩ ?v68 rfl ?hy68 ?_
  case hy68 => ((intro w0 hSw; obtain ⟨⟨hs0, hs1, hs2⟩, ⟨hs3, hs4, hs5⟩, hs6⟩ := HK.out w0 hSw; go_simp); try (with_reducible rfl))
  try simp only [lay]
  refine hh.tl 2 ⟨some 16, Op.fieldAddr 86 (.tmp 15) 3, _, _, _, _⟩ ?v69 rfl ?hy69 ?_
  case hy69 => ((intro w0 hSw; obtain ⟨⟨hs0, hs1, hs2⟩, ⟨hs3, hs4, hs5⟩, hs6⟩ := HK.out w0 hSw; go_simp); try (with_reducible rfl))
  try simp only [lay]
  refine hh.tl 3 ⟨some 17, Op.load 83 (.tmp 16), _, _, _, _⟩ ?v70 rfl ?hy70 ?_
  case hy70 => ((intro w0 hSw; obtain ⟨⟨hs0, hs1, hs2⟩, ⟨hs3, hs4, hs5⟩, hs6⟩ := HK.out w0 hSw; go_simp); try (with_reducible rfl))
  try simp only [lay]
  refine hh.tl 4 ⟨some 18, Op.fieldAddr 31 (.tmp 3) 3, _, _, _, _⟩ ?v71 rfl ?hy71 ?_
  case hy71 => ((intro w0 hSw; obtain ⟨⟨hs0, hs1, hs2⟩, ⟨hs3, hs4, hs5⟩, hs6⟩ := HK.out w0 hSw; go_simp); try (with_reducible rfl))
  try simp only [lay]
  refine hh.tl 5 ⟨some 19, Op.load 3 (.tmp 18), _, _, _, _⟩ ?v72 rfl ?hy72 ?_
  case hy72 => ((intro w0 hSw; obtain ⟨⟨hs0, hs1, hs2⟩, ⟨hs3, hs4, hs5⟩, hs6⟩ := HK.out w0 hSw; go_simp); try (with_reducible rfl))
  try simp only [lay]
  refine hh.tl 6 ⟨some 20, Op.lookup 83 (.tmp 17) (.tmp 19) true, _, _, _, _⟩ ?v73 rfl ?hy73 ?_
  case hy73 => ((intro w0 hSw; obtain ⟨⟨hs0, hs1, hs2⟩, ⟨hs3, hs4, hs5⟩, hs6⟩ := HK.out w0 hSw; go_simp); try (with_reducible rfl))
  try simp only [lay]
  refine hh.tl 7 ⟨some 13, Op.move (.tmp 20), _, _, _, _⟩ ?v74 rfl ?hy74 ?_
  case hy74 => ((intro w0 hSw; obtain ⟨⟨hs0, hs1, hs2⟩, ⟨hs3, hs4, hs5⟩, hs6⟩ := HK.out w0 hSw; go_simp); try (with_reducible rfl))
  try simp only [lay]
  refine hh.tl 8 ⟨some 21, Op.extract (.tmp 13) 0, _, _, _, _⟩ ?v75 rfl ?hy75 ?_
  case hy75 => ((intro w0 hSw; obtain ⟨⟨hs0, hs1, hs2⟩, ⟨hs3, hs4, hs5⟩, hs6⟩ := HK.out w0 hSw; go_simp); try (with_reducible rfl))
  try simp only [lay]
  refine hh.tl 9 ⟨some 22, Op.extract (.tmp 13) 1, _, _, _, _⟩ ?v76 rfl ?hy76 ?_
  case hy76 => ((intro w0 hSw; obtain ⟨⟨hs0, hs1, hs2⟩, ⟨hs3, hs4, hs5⟩, hs6⟩ := HK.out w0 hSw; go_simp); try (with_reducible rfl))
  try simp only [lay]
  refine rd1 (i := 10) (o := ⟨some 5, Op.alloc 80, _, _, _, _⟩) rfl (fun K hK => ?_)
  go_simp
  refine hK.out _ _ (grown_alloc hHeld _) (fun hHeld => ?_)
  clear hK K
  try simp only [lay]
  refine rd1 (i := 11) (o := ⟨none, Op.store 80 (.tmp 5) (.tmp 21), _, _, _, _⟩) rfl (fun K hK => ?_)
  go_simp
  refine hK.out _ _ (grown_alloc HD.out _) (fun hHeld => ?_)
  clear hK K
  try simp only [lay]
  refine hh.tl 12 ⟨some 6, Op.assign (.tmp 22), _, _, _, _⟩ ?v77 rfl ?hy77 ?_
  case hy77 => ((intro w0 hSw; go_simp); try (with_reducible rfl))
  try simp only [lay]
  refine wpAnyH_done (by kernel_rfl) ?_ _
  obtain ⟨⟨f0, f1, f2⟩, ⟨f3, f4, f5⟩, f6⟩ := HK.out wd HD.out
  have hlt : w.heap.size < wd.heap.size := Nat.lt_of_lt_of_le HX.out HD.out.size
  have hne : ¬ w.heap.size = wd.heap.size := Nat.ne_of_lt hlt
  have hht : h < wd.heap.size := Nat.lt_trans HL.out hlt
  have hhe : ¬ h = wd.heap.size := Nat.ne_of_lt hht
  go_wp2_with (fail)
  go_ret
  exact ⟨rfl, grown_trans HG.out (grown_alloc HD.out _)⟩
set_option maxRecDepth 1000000 in
set_option maxHeartbeats 2000000 in
theorem ready_11_yes (A : HomeAt w h c F H) (hK : tt.TabK w) (n : Nt) (hf : fits c n ∧ n.t = -1) (a0 a1 : Int) (a2 : Nat) (a3 : Bool) (a4 : Int) (is : Bool) (hx : askOr H n.b.toNat = #[.int .u8 a0, .int .i64 a1, .int .u32 (a2 : Int), .bool a3, .int .u64 a4]) (hi : (jbOf H n.b.toNat).isSome = is) (hk : n.k = 11) (hh : is = true) (h2 : ((a2 : Int) != 0) = false) (h3 : (a1 != n.f) = false) : Calls Tryd.prog 18 #[.pointer (some ⟨h, 0, none⟩), .agg (na n)] w fun e w' => e = .returned (.int .i64 0) ∧ w.grownBy w' none := by
  obtain ⟨wb, hwb⟩ : ∃ wb, w.alloc (.cells (na n) 31) = wb := ⟨_, rfl⟩
  have hgb : w.grownBy wb none := by rw [← hwb]; exact grown_alloc (grown_refl _ _) _
  have HA : Hid (∀ w', wb.grownBy w' none → HomeAt w' h c F H) := qh fun w' h' => A.grown (grown_trans hgb h')
  have hbx : wb.heap[w.heap.size]? = some (.cells (na n) 31 (0, 0)) := by rw [← hwb]; exact heap_alloc_new _ _
  have HR : Hid (∀ w', wb.grownBy w' none → w'.rangeAt w.heap.size 0 (nt n)) := qh fun w' h => tt.range_grown (tt.range_of hbx) h (by simp)
  have HM : Hid (∀ w', wb.grownBy w' none → _) := qh fun w' h' => hfits_any (HA.out w' h') ((hK.grown hgb).grown h') n
  have HG := qh hgb
  have HL : Hid (h < w.heap.size) := qh A.lt
  have HX : Hid (w.heap.size < wb.heap.size) := qh (lt_of hbx)
  rw [decide_eq_true hf] at HM
  have HK : Hid (∀ w', wb.grownBy w' none → (w'.cell? ⟨h, 0, none⟩ = some (.int .i64 c.co) ∧ w'.cell? ⟨h, 3, none⟩ = some (.map (some F.ub)) ∧ w'.cell? ⟨h, 4, none⟩ = some (.pointer (some ⟨F.pb, 0, none⟩))) ∧ (w'.cell? ⟨w.heap.size, 0, none⟩ = some (.int .u8 n.k) ∧ w'.cell? ⟨w.heap.size, 1, none⟩ = some (.int .i64 n.f) ∧ w'.cell? ⟨w.heap.size, 3, none⟩ = some (.int .i64 n.b)) ∧ (Instr.lookup 83 (.map (some F.ub)) (.int .i64 n.b) true).run Tryd.prog w' = .ok (.tuple #[.agg #[.int .u8 a0, .int .i64 a1, .int .u32 (a2 : Int), .bool a3, .int .u64 a4], .bool is]) w') := qh fun w' h' => by
    have hA := HA.out w' h'
    have hb := (blk_lt hf.1).1
    refine ⟨⟨hA.cells.1, hA.cells.2.2.2.1, hA.cells.2.2.2.2⟩, ⟨tt.cell_at (HR.out w' h') 0 _ rfl, tt.cell_at (HR.out w' h') 1 _ rfl, tt.cell_at (HR.out w' h') 3 _ rfl⟩, ?_⟩
    have := hA.look n.b.toNat
    rw [Int.toNat_of_nonneg hb, hx, hi] at this
    exact this
  have e9 : (n.k == 9) = false := by rw [hk]; rfl
  have e10 : (n.k == 10) = false := by rw [hk]; rfl
  have e11 : (n.k == 11) = true := by rw [hk]; rfl
  subst hh
  clear hk
  have HHX := qh hx
  have HHI := qh hi
  clear A hK hgb hbx hf hx hi
  go_enter Tryd.func18, Tryd.ntmps18
  go_wp2_with (first
    | ((with_reducible refine tt.load_nt n _ w.heap.size ?_ (HR.out _ (grown_refl _ _)) ?_); (rfl))
    | (go_at_call 40; ((with_reducible refine (HM.out _ (grown_refl _ _)).mono ?_); rintro e w1 ⟨rfl, hg1⟩; have HG1 := qh hg1; clear hg1)))
  refine wp_region_held_drew (S := fun w' => wb.grownBy w' none) (by kernel_rfl) (tt.grown_drew HG1.out) (fun hHeld => ?_)
  generalize w1.drew = wd at hHeld ⊢
  have HD := qh hHeld
  refine hh.tl 0 ⟨some 14, Op.move (.tmp 0), _, _, _, _⟩ ?v78 rfl ?hy78 ?_
  case hy78 => ((intro w0 hSw; obtain ⟨⟨hs0, hs1, hs2⟩, ⟨hs3, hs4, hs5⟩, hs6⟩ := HK.out w0 hSw; go_simp); try (with_reducible rfl))
  try simp only [lay]
  refine hh.tl 1 ⟨some 15, Op.nilCheck (.tmp 14), _, _, _, _⟩ ?v79 rfl ?hy79 ?_
  case hy79 => ((intro w0 hSw; obtain ⟨⟨hs0, hs1, hs2⟩, ⟨hs3, hs4, hs5⟩, hs6⟩ := HK.out w0 hSw; go_simp); try (with_reducible rfl))
  try simp only [lay]
  refine hh.tl 2 ⟨some 16, Op.fieldAddr 86 (.tmp 15) 3, _, _, _, _⟩ ?v80 rfl ?hy80 ?_
  case hy80 => ((intro w0 hSw; obtain ⟨⟨hs0, hs1, hs2⟩, ⟨hs3, hs4, hs5⟩, hs6⟩ := HK.out w0 hSw; go_simp); try (with_reducible rfl))
  try simp only [lay]
  refine hh.tl 3 ⟨some 17, Op.load 83 (.tmp 16), _, _, _, _⟩ ?v81 rfl ?hy81 ?_
  case hy81 => ((intro w0 hSw; obtain ⟨⟨hs0, hs1, hs2⟩, ⟨hs3, hs4, hs5⟩, hs6⟩ := HK.out w0 hSw; go_simp); try (with_reducible rfl))
  try simp only [lay]
  refine hh.tl 4 ⟨some 18, Op.fieldAddr 31 (.tmp 3) 3, _, _, _, _⟩ ?v82 rfl ?hy82 ?_
  case hy82 => ((intro w0 hSw; obtain ⟨⟨hs0, hs1, hs2⟩, ⟨hs3, hs4, hs5⟩, hs6⟩ := HK.out w0 hSw; go_simp); try (with_reducible rfl))
  try simp only [lay]
  refine hh.tl 5 ⟨some 19, Op.load 3 (.tmp 18), _, _, _, _⟩ ?v83 rfl ?hy83 ?_
  case hy83 => ((intro w0 hSw; obtain ⟨⟨hs0, hs1, hs2⟩, ⟨hs3, hs4, hs5⟩, hs6⟩ := HK.out w0 hSw; go_simp); try (with_reducible rfl))
  try simp only [lay]
  refine hh.tl 6 ⟨some 20, Op.lookup 83 (.tmp 17) (.tmp 19) true, _, _, _, _⟩ ?v84 rfl ?hy84 ?_
  case hy84 => ((intro w0 hSw; obtain ⟨⟨hs0, hs1, hs2⟩, ⟨hs3, hs4, hs5⟩, hs6⟩ := HK.out w0 hSw; go_simp); try (with_reducible rfl))
  try simp only [lay]
  refine hh.tl 7 ⟨some 13, Op.move (.tmp 20), _, _, _, _⟩ ?v85 rfl ?hy85 ?_
  case hy85 => ((intro w0 hSw; obtain ⟨⟨hs0, hs1, hs2⟩, ⟨hs3, hs4, hs5⟩, hs6⟩ := HK.out w0 hSw; go_simp); try (with_reducible rfl))
  try simp only [lay]
  refine hh.tl 8 ⟨some 21, Op.extract (.tmp 13) 0, _, _, _, _⟩ ?v86 rfl ?hy86 ?_
  case hy86 => ((intro w0 hSw; obtain ⟨⟨hs0, hs1, hs2⟩, ⟨hs3, hs4, hs5⟩, hs6⟩ := HK.out w0 hSw; go_simp); try (with_reducible rfl))
  try simp only [lay]
  refine hh.tl 9 ⟨some 22, Op.extract (.tmp 13) 1, _, _, _, _⟩ ?v87 rfl ?hy87 ?_
  case hy87 => ((intro w0 hSw; obtain ⟨⟨hs0, hs1, hs2⟩, ⟨hs3, hs4, hs5⟩, hs6⟩ := HK.out w0 hSw; go_simp); try (with_reducible rfl))
  try simp only [lay]
  refine rd1 (i := 10) (o := ⟨some 5, Op.alloc 80, _, _, _, _⟩) rfl (fun K hK => ?_)
  go_simp
  refine hK.out _ _ (grown_alloc hHeld _) (fun hHeld => ?_)
  clear hK K
  try simp only [lay]
  refine rd1 (i := 11) (o := ⟨none, Op.store 80 (.tmp 5) (.tmp 21), _, _, _, _⟩) rfl (fun K hK => ?_)
  go_simp
  refine hK.out _ _ (grown_alloc HD.out _) (fun hHeld => ?_)
  clear hK K
  try simp only [lay]
  refine hh.tl 12 ⟨some 6, Op.assign (.tmp 22), _, _, _, _⟩ ?v88 rfl ?hy88 ?_
  case hy88 => ((intro w0 hSw; go_simp); try (with_reducible rfl))
  try simp only [lay]
  refine wpAnyH_done (by kernel_rfl) ?_ _
  obtain ⟨⟨f0, f1, f2⟩, ⟨f3, f4, f5⟩, f6⟩ := HK.out wd HD.out
  have hlt : w.heap.size < wd.heap.size := Nat.lt_of_lt_of_le HX.out HD.out.size
  have hne : ¬ w.heap.size = wd.heap.size := Nat.ne_of_lt hlt
  have hht : h < wd.heap.size := Nat.lt_trans HL.out hlt
  have hhe : ¬ h = wd.heap.size := Nat.ne_of_lt hht
  go_wp2_with (fail)
  go_ret
  exact ⟨rfl, grown_trans HG.out (grown_alloc HD.out _)⟩
set_option maxRecDepth 1000000 in
set_option maxHeartbeats 2000000 in
theorem ready_new (A : HomeAt w h c F H) (hK : tt.TabK w) (n : Nt) (hf : fits c n ∧ n.t = -1) (a0 a1 : Int) (a2 : Nat) (a3 : Bool) (a4 : Int) (is : Bool) (hx : askOr H n.b.toNat = #[.int .u8 a0, .int .i64 a1, .int .u32 (a2 : Int), .bool a3, .int .u64 a4]) (hi : (jbOf H n.b.toNat).isSome = is) (hk : n.k = 1 ∨ n.k = 2 ∨ n.k = 3) (hh : is = false) : Calls Tryd.prog 18 #[.pointer (some ⟨h, 0, none⟩), .agg (na n)] w fun e w' => e = .returned (.int .i64 0) ∧ w.grownBy w' none := by
  obtain ⟨wb, hwb⟩ : ∃ wb, w.alloc (.cells (na n) 31) = wb := ⟨_, rfl⟩
  have hgb : w.grownBy wb none := by rw [← hwb]; exact grown_alloc (grown_refl _ _) _
  have HA : Hid (∀ w', wb.grownBy w' none → HomeAt w' h c F H) := qh fun w' h' => A.grown (grown_trans hgb h')
  have hbx : wb.heap[w.heap.size]? = some (.cells (na n) 31 (0, 0)) := by rw [← hwb]; exact heap_alloc_new _ _
  have HR : Hid (∀ w', wb.grownBy w' none → w'.rangeAt w.heap.size 0 (nt n)) := qh fun w' h => tt.range_grown (tt.range_of hbx) h (by simp)
  have HM : Hid (∀ w', wb.grownBy w' none → _) := qh fun w' h' => hfits_any (HA.out w' h') ((hK.grown hgb).grown h') n
  have HG := qh hgb
  have HL : Hid (h < w.heap.size) := qh A.lt
  have HX : Hid (w.heap.size < wb.heap.size) := qh (lt_of hbx)
  rw [decide_eq_true hf] at HM
  have HK : Hid (∀ w', wb.grownBy w' none → (w'.cell? ⟨h, 0, none⟩ = some (.int .i64 c.co) ∧ w'.cell? ⟨h, 3, none⟩ = some (.map (some F.ub)) ∧ w'.cell? ⟨h, 4, none⟩ = some (.pointer (some ⟨F.pb, 0, none⟩))) ∧ (w'.cell? ⟨w.heap.size, 0, none⟩ = some (.int .u8 n.k) ∧ w'.cell? ⟨w.heap.size, 1, none⟩ = some (.int .i64 n.f) ∧ w'.cell? ⟨w.heap.size, 3, none⟩ = some (.int .i64 n.b)) ∧ (Instr.lookup 83 (.map (some F.ub)) (.int .i64 n.b) true).run Tryd.prog w' = .ok (.tuple #[.agg #[.int .u8 a0, .int .i64 a1, .int .u32 (a2 : Int), .bool a3, .int .u64 a4], .bool is]) w') := qh fun w' h' => by
    have hA := HA.out w' h'
    have hb := (blk_lt hf.1).1
    refine ⟨⟨hA.cells.1, hA.cells.2.2.2.1, hA.cells.2.2.2.2⟩, ⟨tt.cell_at (HR.out w' h') 0 _ rfl, tt.cell_at (HR.out w' h') 1 _ rfl, tt.cell_at (HR.out w' h') 3 _ rfl⟩, ?_⟩
    have := hA.look n.b.toNat
    rw [Int.toNat_of_nonneg hb, hx, hi] at this
    exact this
  have e9 : (n.k == 9) = false := by simp; omega
  have e10 : (n.k == 10) = false := by simp; omega
  have e11 : (n.k == 11) = false := by simp; omega
  subst hh
  clear hk
  have HHX := qh hx
  have HHI := qh hi
  clear A hK hgb hbx hf hx hi
  go_enter Tryd.func18, Tryd.ntmps18
  go_wp2_with (first
    | ((with_reducible refine tt.load_nt n _ w.heap.size ?_ (HR.out _ (grown_refl _ _)) ?_); (rfl))
    | (go_at_call 40; ((with_reducible refine (HM.out _ (grown_refl _ _)).mono ?_); rintro e w1 ⟨rfl, hg1⟩; have HG1 := qh hg1; clear hg1)))
  refine wp_region_held_drew (S := fun w' => wb.grownBy w' none) (by kernel_rfl) (tt.grown_drew HG1.out) (fun hHeld => ?_)
  generalize w1.drew = wd at hHeld ⊢
  have HD := qh hHeld
  refine hh.tl 0 ⟨some 14, Op.move (.tmp 0), _, _, _, _⟩ ?v89 rfl ?hy89 ?_
  case hy89 => ((intro w0 hSw; obtain ⟨⟨hs0, hs1, hs2⟩, ⟨hs3, hs4, hs5⟩, hs6⟩ := HK.out w0 hSw; go_simp); try (with_reducible rfl))
  try simp only [lay]
  refine hh.tl 1 ⟨some 15, Op.nilCheck (.tmp 14), _, _, _, _⟩ ?v90 rfl ?hy90 ?_
  case hy90 => ((intro w0 hSw; obtain ⟨⟨hs0, hs1, hs2⟩, ⟨hs3, hs4, hs5⟩, hs6⟩ := HK.out w0 hSw; go_simp); try (with_reducible rfl))
  try simp only [lay]
  refine hh.tl 2 ⟨some 16, Op.fieldAddr 86 (.tmp 15) 3, _, _, _, _⟩ ?v91 rfl ?hy91 ?_
  case hy91 => ((intro w0 hSw; obtain ⟨⟨hs0, hs1, hs2⟩, ⟨hs3, hs4, hs5⟩, hs6⟩ := HK.out w0 hSw; go_simp); try (with_reducible rfl))
  try simp only [lay]
  refine hh.tl 3 ⟨some 17, Op.load 83 (.tmp 16), _, _, _, _⟩ ?v92 rfl ?hy92 ?_
  case hy92 => ((intro w0 hSw; obtain ⟨⟨hs0, hs1, hs2⟩, ⟨hs3, hs4, hs5⟩, hs6⟩ := HK.out w0 hSw; go_simp); try (with_reducible rfl))
  try simp only [lay]
  refine hh.tl 4 ⟨some 18, Op.fieldAddr 31 (.tmp 3) 3, _, _, _, _⟩ ?v93 rfl ?hy93 ?_
  case hy93 => ((intro w0 hSw; obtain ⟨⟨hs0, hs1, hs2⟩, ⟨hs3, hs4, hs5⟩, hs6⟩ := HK.out w0 hSw; go_simp); try (with_reducible rfl))
  try simp only [lay]
  refine hh.tl 5 ⟨some 19, Op.load 3 (.tmp 18), _, _, _, _⟩ ?v94 rfl ?hy94 ?_
  case hy94 => ((intro w0 hSw; obtain ⟨⟨hs0, hs1, hs2⟩, ⟨hs3, hs4, hs5⟩, hs6⟩ := HK.out w0 hSw; go_simp); try (with_reducible rfl))
  try simp only [lay]
  refine hh.tl 6 ⟨some 20, Op.lookup 83 (.tmp 17) (.tmp 19) true, _, _, _, _⟩ ?v95 rfl ?hy95 ?_
  case hy95 => ((intro w0 hSw; obtain ⟨⟨hs0, hs1, hs2⟩, ⟨hs3, hs4, hs5⟩, hs6⟩ := HK.out w0 hSw; go_simp); try (with_reducible rfl))
  try simp only [lay]
  refine hh.tl 7 ⟨some 13, Op.move (.tmp 20), _, _, _, _⟩ ?v96 rfl ?hy96 ?_
  case hy96 => ((intro w0 hSw; obtain ⟨⟨hs0, hs1, hs2⟩, ⟨hs3, hs4, hs5⟩, hs6⟩ := HK.out w0 hSw; go_simp); try (with_reducible rfl))
  try simp only [lay]
  refine hh.tl 8 ⟨some 21, Op.extract (.tmp 13) 0, _, _, _, _⟩ ?v97 rfl ?hy97 ?_
  case hy97 => ((intro w0 hSw; obtain ⟨⟨hs0, hs1, hs2⟩, ⟨hs3, hs4, hs5⟩, hs6⟩ := HK.out w0 hSw; go_simp); try (with_reducible rfl))
  try simp only [lay]
  refine hh.tl 9 ⟨some 22, Op.extract (.tmp 13) 1, _, _, _, _⟩ ?v98 rfl ?hy98 ?_
  case hy98 => ((intro w0 hSw; obtain ⟨⟨hs0, hs1, hs2⟩, ⟨hs3, hs4, hs5⟩, hs6⟩ := HK.out w0 hSw; go_simp); try (with_reducible rfl))
  try simp only [lay]
  refine rd1 (i := 10) (o := ⟨some 5, Op.alloc 80, _, _, _, _⟩) rfl (fun K hK => ?_)
  go_simp
  refine hK.out _ _ (grown_alloc hHeld _) (fun hHeld => ?_)
  clear hK K
  try simp only [lay]
  refine rd1 (i := 11) (o := ⟨none, Op.store 80 (.tmp 5) (.tmp 21), _, _, _, _⟩) rfl (fun K hK => ?_)
  go_simp
  refine hK.out _ _ (grown_alloc HD.out _) (fun hHeld => ?_)
  clear hK K
  try simp only [lay]
  refine hh.tl 12 ⟨some 6, Op.assign (.tmp 22), _, _, _, _⟩ ?v99 rfl ?hy99 ?_
  case hy99 => ((intro w0 hSw; go_simp); try (with_reducible rfl))
  try simp only [lay]
  refine wpAnyH_done (by kernel_rfl) ?_ _
  obtain ⟨⟨f0, f1, f2⟩, ⟨f3, f4, f5⟩, f6⟩ := HK.out wd HD.out
  have hlt : w.heap.size < wd.heap.size := Nat.lt_of_lt_of_le HX.out HD.out.size
  have hne : ¬ w.heap.size = wd.heap.size := Nat.ne_of_lt hlt
  have hht : h < wd.heap.size := Nat.lt_trans HL.out hlt
  have hhe : ¬ h = wd.heap.size := Nat.ne_of_lt hht
  go_wp2_with (fail)
  go_ret
  exact ⟨rfl, grown_trans HG.out (grown_alloc HD.out _)⟩
set_option maxRecDepth 1000000 in
set_option maxHeartbeats 2000000 in
theorem ready_full (A : HomeAt w h c F H) (hK : tt.TabK w) (n : Nt) (hf : fits c n ∧ n.t = -1) (a0 a1 : Int) (a2 : Nat) (a3 : Bool) (a4 : Int) (is : Bool) (hx : askOr H n.b.toNat = #[.int .u8 a0, .int .i64 a1, .int .u32 (a2 : Int), .bool a3, .int .u64 a4]) (hi : (jbOf H n.b.toNat).isSome = is) (hk : n.k = 1 ∨ n.k = 2 ∨ n.k = 3) (hh : is = true) (hr : room c ≤ H.wt.length) : Calls Tryd.prog 18 #[.pointer (some ⟨h, 0, none⟩), .agg (na n)] w fun e w' => e = .returned (.int .i64 110) ∧ w.grownBy w' none := by
  obtain ⟨wb, hwb⟩ : ∃ wb, w.alloc (.cells (na n) 31) = wb := ⟨_, rfl⟩
  have hgb : w.grownBy wb none := by rw [← hwb]; exact grown_alloc (grown_refl _ _) _
  have HA : Hid (∀ w', wb.grownBy w' none → HomeAt w' h c F H) := qh fun w' h' => A.grown (grown_trans hgb h')
  have hbx : wb.heap[w.heap.size]? = some (.cells (na n) 31 (0, 0)) := by rw [← hwb]; exact heap_alloc_new _ _
  have HR : Hid (∀ w', wb.grownBy w' none → w'.rangeAt w.heap.size 0 (nt n)) := qh fun w' h => tt.range_grown (tt.range_of hbx) h (by simp)
  have HM : Hid (∀ w', wb.grownBy w' none → _) := qh fun w' h' => hfits_any (HA.out w' h') ((hK.grown hgb).grown h') n
  have HG := qh hgb
  have HL : Hid (h < w.heap.size) := qh A.lt
  have HX : Hid (w.heap.size < wb.heap.size) := qh (lt_of hbx)
  rw [decide_eq_true hf] at HM
  have HK : Hid (∀ w', wb.grownBy w' none → (w'.cell? ⟨h, 0, none⟩ = some (.int .i64 c.co) ∧ w'.cell? ⟨h, 3, none⟩ = some (.map (some F.ub)) ∧ w'.cell? ⟨h, 4, none⟩ = some (.pointer (some ⟨F.pb, 0, none⟩))) ∧ (w'.cell? ⟨w.heap.size, 0, none⟩ = some (.int .u8 n.k) ∧ w'.cell? ⟨w.heap.size, 1, none⟩ = some (.int .i64 n.f) ∧ w'.cell? ⟨w.heap.size, 3, none⟩ = some (.int .i64 n.b)) ∧ (Instr.lookup 83 (.map (some F.ub)) (.int .i64 n.b) true).run Tryd.prog w' = .ok (.tuple #[.agg #[.int .u8 a0, .int .i64 a1, .int .u32 (a2 : Int), .bool a3, .int .u64 a4], .bool is]) w') := qh fun w' h' => by
    have hA := HA.out w' h'
    have hb := (blk_lt hf.1).1
    refine ⟨⟨hA.cells.1, hA.cells.2.2.2.1, hA.cells.2.2.2.2⟩, ⟨tt.cell_at (HR.out w' h') 0 _ rfl, tt.cell_at (HR.out w' h') 1 _ rfl, tt.cell_at (HR.out w' h') 3 _ rfl⟩, ?_⟩
    have := hA.look n.b.toNat
    rw [Int.toNat_of_nonneg hb, hx, hi] at this
    exact this
  have e9 : (n.k == 9) = false := by simp; omega
  have e10 : (n.k == 10) = false := by simp; omega
  have e11 : (n.k == 11) = false := by simp; omega
  subst hh
  have hrl := room_le A.inv.may
  have hfl := A.full
  have HQ : Hid (∀ w', wb.grownBy w' none → _) := qh fun w' h' => tt.proom_any F.pb F.pv (room c) H.wt w' (HA.out w' h').pool A.full hrl.2.1
  have e0 : ((room c : Int) - (H.wt.length : Int) == 0) = true := by simp; omega
  generalize (room c : Int) - (H.wt.length : Int) = dif at HQ e0
  clear hk hr hrl hfl
  have HHX := qh hx
  have HHI := qh hi
  clear A hK hgb hbx hf hx hi
  go_enter Tryd.func18, Tryd.ntmps18
  go_wp2_with (first
    | ((with_reducible refine tt.load_nt n _ w.heap.size ?_ (HR.out _ (grown_refl _ _)) ?_); (rfl))
    | (go_at_call 40; ((with_reducible refine (HM.out _ (grown_refl _ _)).mono ?_); rintro e w1 ⟨rfl, hg1⟩; have HG1 := qh hg1; clear hg1)))
  refine wp_region_held_drew (S := fun w' => wb.grownBy w' none) (by kernel_rfl) (tt.grown_drew HG1.out) (fun hHeld => ?_)
  generalize w1.drew = wd at hHeld ⊢
  have HD := qh hHeld
  refine hh.tl 0 ⟨some 14, Op.move (.tmp 0), _, _, _, _⟩ ?v100 rfl ?hy100 ?_
  case hy100 => ((intro w0 hSw; obtain ⟨⟨hs0, hs1, hs2⟩, ⟨hs3, hs4, hs5⟩, hs6⟩ := HK.out w0 hSw; go_simp); try (with_reducible rfl))
  try simp only [lay]
  refine hh.tl 1 ⟨some 15, Op.nilCheck (.tmp 14), _, _, _, _⟩ ?v101 rfl ?hy101 ?_
  case hy101 => ((intro w0 hSw; obtain ⟨⟨hs0, hs1, hs2⟩, ⟨hs3, hs4, hs5⟩, hs6⟩ := HK.out w0 hSw; go_simp); try (with_reducible rfl))
  try simp only [lay]
  refine hh.tl 2 ⟨some 16, Op.fieldAddr 86 (.tmp 15) 3, _, _, _, _⟩ ?v102 rfl ?hy102 ?_
  case hy102 => ((intro w0 hSw; obtain ⟨⟨hs0, hs1, hs2⟩, ⟨hs3, hs4, hs5⟩, hs6⟩ := HK.out w0 hSw; go_simp); try (with_reducible rfl))
  try simp only [lay]
  refine hh.tl 3 ⟨some 17, Op.load 83 (.tmp 16), _, _, _, _⟩ ?v103 rfl ?hy103 ?_
  case hy103 => ((intro w0 hSw; obtain ⟨⟨hs0, hs1, hs2⟩, ⟨hs3, hs4, hs5⟩, hs6⟩ := HK.out w0 hSw; go_simp); try (with_reducible rfl))
  try simp only [lay]
  refine hh.tl 4 ⟨some 18, Op.fieldAddr 31 (.tmp 3) 3, _, _, _, _⟩ ?v104 rfl ?hy104 ?_
  case hy104 => ((intro w0 hSw; obtain ⟨⟨hs0, hs1, hs2⟩, ⟨hs3, hs4, hs5⟩, hs6⟩ := HK.out w0 hSw; go_simp); try (with_reducible rfl))
  try simp only [lay]
  refine hh.tl 5 ⟨some 19, Op.load 3 (.tmp 18), _, _, _, _⟩ ?v105 rfl ?hy105 ?_
  case hy105 => ((intro w0 hSw; obtain ⟨⟨hs0, hs1, hs2⟩, ⟨hs3, hs4, hs5⟩, hs6⟩ := HK.out w0 hSw; go_simp); try (with_reducible rfl))
  try simp only [lay]
  refine hh.tl 6 ⟨some 20, Op.lookup 83 (.tmp 17) (.tmp 19) true, _, _, _, _⟩ ?v106 rfl ?hy106 ?_
  case hy106 => ((intro w0 hSw; obtain ⟨⟨hs0, hs1, hs2⟩, ⟨hs3, hs4, hs5⟩, hs6⟩ := HK.out w0 hSw; go_simp); try (with_reducible rfl))
  try simp only [lay]
  refine hh.tl 7 ⟨some 13, Op.move (.tmp 20), _, _, _, _⟩ ?v107 rfl ?hy107 ?_
  case hy107 => ((intro w0 hSw; obtain ⟨⟨hs0, hs1, hs2⟩, ⟨hs3, hs4, hs5⟩, hs6⟩ := HK.out w0 hSw; go_simp); try (with_reducible rfl))
  try simp only [lay]
  refine hh.tl 8 ⟨some 21, Op.extract (.tmp 13) 0, _, _, _, _⟩ ?v108 rfl ?hy108 ?_
  case hy108 => ((intro w0 hSw; obtain ⟨⟨hs0, hs1, hs2⟩, ⟨hs3, hs4, hs5⟩, hs6⟩ := HK.out w0 hSw; go_simp); try (with_reducible rfl))
  try simp only [lay]
  refine hh.tl 9 ⟨some 22, Op.extract (.tmp 13) 1, _, _, _, _⟩ ?v109 rfl ?hy109 ?_
  case hy109 => ((intro w0 hSw; obtain ⟨⟨hs0, hs1, hs2⟩, ⟨hs3, hs4, hs5⟩, hs6⟩ := HK.out w0 hSw; go_simp); try (with_reducible rfl))
  try simp only [lay]
  refine rd1 (i := 10) (o := ⟨some 5, Op.alloc 80, _, _, _, _⟩) rfl (fun K hK => ?_)
  go_simp
  refine hK.out _ _ (grown_alloc hHeld _) (fun hHeld => ?_)
  clear hK K
  try simp only [lay]
  refine rd1 (i := 11) (o := ⟨none, Op.store 80 (.tmp 5) (.tmp 21), _, _, _, _⟩) rfl (fun K hK => ?_)
  go_simp
  refine hK.out _ _ (grown_alloc HD.out _) (fun hHeld => ?_)
  clear hK K
  try simp only [lay]
  refine hh.tl 12 ⟨some 6, Op.assign (.tmp 22), _, _, _, _⟩ ?v110 rfl ?hy110 ?_
  case hy110 => ((intro w0 hSw; go_simp); try (with_reducible rfl))
  try simp only [lay]
  refine wpAnyH_done (by kernel_rfl) ?_ _
  obtain ⟨⟨f0, f1, f2⟩, ⟨f3, f4, f5⟩, f6⟩ := HK.out wd HD.out
  have hlt : w.heap.size < wd.heap.size := Nat.lt_of_lt_of_le HX.out HD.out.size
  have hne : ¬ w.heap.size = wd.heap.size := Nat.ne_of_lt hlt
  have hht : h < wd.heap.size := Nat.lt_trans HL.out hlt
  have hhe : ¬ h = wd.heap.size := Nat.ne_of_lt hht
  go_wp2_with (go_at_call 42; ((with_reducible refine (HQ.out _ (grown_alloc HD.out _)).mono ?_); rintro e w5 ⟨rfl, hq5⟩; have HQ5 := qh hq5; clear hq5))
  go_ret
  obtain ⟨nq, rfl⟩ := HQ5.out
  exact ⟨rfl, grown_trans HG.out (tt.grown_drewN (grown_alloc HD.out _) _)⟩
set_option maxRecDepth 1000000 in
set_option maxHeartbeats 2000000 in
theorem ready_wait (A : HomeAt w h c F H) (hK : tt.TabK w) (n : Nt) (hf : fits c n ∧ n.t = -1) (a0 a1 : Int) (a2 : Nat) (a3 : Bool) (a4 : Int) (is : Bool) (hx : askOr H n.b.toNat = #[.int .u8 a0, .int .i64 a1, .int .u32 (a2 : Int), .bool a3, .int .u64 a4]) (hi : (jbOf H n.b.toNat).isSome = is) (hk : n.k = 1 ∨ n.k = 2 ∨ n.k = 3) (hh : is = true) (hr : ¬ room c ≤ H.wt.length) : Calls Tryd.prog 18 #[.pointer (some ⟨h, 0, none⟩), .agg (na n)] w fun e w' => e = .returned (.int .i64 0) ∧ w.grownBy w' none := by
  obtain ⟨wb, hwb⟩ : ∃ wb, w.alloc (.cells (na n) 31) = wb := ⟨_, rfl⟩
  have hgb : w.grownBy wb none := by rw [← hwb]; exact grown_alloc (grown_refl _ _) _
  have HA : Hid (∀ w', wb.grownBy w' none → HomeAt w' h c F H) := qh fun w' h' => A.grown (grown_trans hgb h')
  have hbx : wb.heap[w.heap.size]? = some (.cells (na n) 31 (0, 0)) := by rw [← hwb]; exact heap_alloc_new _ _
  have HR : Hid (∀ w', wb.grownBy w' none → w'.rangeAt w.heap.size 0 (nt n)) := qh fun w' h => tt.range_grown (tt.range_of hbx) h (by simp)
  have HM : Hid (∀ w', wb.grownBy w' none → _) := qh fun w' h' => hfits_any (HA.out w' h') ((hK.grown hgb).grown h') n
  have HG := qh hgb
  have HL : Hid (h < w.heap.size) := qh A.lt
  have HX : Hid (w.heap.size < wb.heap.size) := qh (lt_of hbx)
  rw [decide_eq_true hf] at HM
  have HK : Hid (∀ w', wb.grownBy w' none → (w'.cell? ⟨h, 0, none⟩ = some (.int .i64 c.co) ∧ w'.cell? ⟨h, 3, none⟩ = some (.map (some F.ub)) ∧ w'.cell? ⟨h, 4, none⟩ = some (.pointer (some ⟨F.pb, 0, none⟩))) ∧ (w'.cell? ⟨w.heap.size, 0, none⟩ = some (.int .u8 n.k) ∧ w'.cell? ⟨w.heap.size, 1, none⟩ = some (.int .i64 n.f) ∧ w'.cell? ⟨w.heap.size, 3, none⟩ = some (.int .i64 n.b)) ∧ (Instr.lookup 83 (.map (some F.ub)) (.int .i64 n.b) true).run Tryd.prog w' = .ok (.tuple #[.agg #[.int .u8 a0, .int .i64 a1, .int .u32 (a2 : Int), .bool a3, .int .u64 a4], .bool is]) w') := qh fun w' h' => by
    have hA := HA.out w' h'
    have hb := (blk_lt hf.1).1
    refine ⟨⟨hA.cells.1, hA.cells.2.2.2.1, hA.cells.2.2.2.2⟩, ⟨tt.cell_at (HR.out w' h') 0 _ rfl, tt.cell_at (HR.out w' h') 1 _ rfl, tt.cell_at (HR.out w' h') 3 _ rfl⟩, ?_⟩
    have := hA.look n.b.toNat
    rw [Int.toNat_of_nonneg hb, hx, hi] at this
    exact this
  have e9 : (n.k == 9) = false := by simp; omega
  have e10 : (n.k == 10) = false := by simp; omega
  have e11 : (n.k == 11) = false := by simp; omega
  subst hh
  have hrl := room_le A.inv.may
  have hfl := A.full
  have HQ : Hid (∀ w', wb.grownBy w' none → _) := qh fun w' h' => tt.proom_any F.pb F.pv (room c) H.wt w' (HA.out w' h').pool A.full hrl.2.1
  have e0 : ((room c : Int) - (H.wt.length : Int) == 0) = false := by simp; omega
  generalize (room c : Int) - (H.wt.length : Int) = dif at HQ e0
  clear hk hr hrl hfl
  have HHX := qh hx
  have HHI := qh hi
  clear A hK hgb hbx hf hx hi
  go_enter Tryd.func18, Tryd.ntmps18
  go_wp2_with (first
    | ((with_reducible refine tt.load_nt n _ w.heap.size ?_ (HR.out _ (grown_refl _ _)) ?_); (rfl))
    | (go_at_call 40; ((with_reducible refine (HM.out _ (grown_refl _ _)).mono ?_); rintro e w1 ⟨rfl, hg1⟩; have HG1 := qh hg1; clear hg1)))
  refine wp_region_held_drew (S := fun w' => wb.grownBy w' none) (by kernel_rfl) (tt.grown_drew HG1.out) (fun hHeld => ?_)
  generalize w1.drew = wd at hHeld ⊢
  have HD := qh hHeld
  refine hh.tl 0 ⟨some 14, Op.move (.tmp 0), _, _, _, _⟩ ?v111 rfl ?hy111 ?_
  case hy111 => ((intro w0 hSw; obtain ⟨⟨hs0, hs1, hs2⟩, ⟨hs3, hs4, hs5⟩, hs6⟩ := HK.out w0 hSw; go_simp); try (with_reducible rfl))
  try simp only [lay]
  refine hh.tl 1 ⟨some 15, Op.nilCheck (.tmp 14), _, _, _, _⟩ ?v112 rfl ?hy112 ?_
  case hy112 => ((intro w0 hSw; obtain ⟨⟨hs0, hs1, hs2⟩, ⟨hs3, hs4, hs5⟩, hs6⟩ := HK.out w0 hSw; go_simp); try (with_reducible rfl))
  try simp only [lay]
  refine hh.tl 2 ⟨some 16, Op.fieldAddr 86 (.tmp 15) 3, _, _, _, _⟩ ?v113 rfl ?hy113 ?_
  case hy113 => ((intro w0 hSw; obtain ⟨⟨hs0, hs1, hs2⟩, ⟨hs3, hs4, hs5⟩, hs6⟩ := HK.out w0 hSw; go_simp); try (with_reducible rfl))
  try simp only [lay]
  refine hh.tl 3 ⟨some 17, Op.load 83 (.tmp 16), _, _, _, _⟩ ?v114 rfl ?hy114 ?_
  case hy114 => ((intro w0 hSw; obtain ⟨⟨hs0, hs1, hs2⟩, ⟨hs3, hs4, hs5⟩, hs6⟩ := HK.out w0 hSw; go_simp); try (with_reducible rfl))
  try simp only [lay]
  refine hh.tl 4 ⟨some 18, Op.fieldAddr 31 (.tmp 3) 3, _, _, _, _⟩ ?v115 rfl ?hy115 ?_
  case hy115 => ((intro w0 hSw; obtain ⟨⟨hs0, hs1, hs2⟩, ⟨hs3, hs4, hs5⟩, hs6⟩ := HK.out w0 hSw; go_simp); try (with_reducible rfl))
  try simp only [lay]
  refine hh.tl 5 ⟨some 19, Op.load 3 (.tmp 18), _, _, _, _⟩ ?v116 rfl ?hy116 ?_
  case hy116 => ((intro w0 hSw; obtain ⟨⟨hs0, hs1, hs2⟩, ⟨hs3, hs4, hs5⟩, hs6⟩ := HK.out w0 hSw; go_simp); try (with_reducible rfl))
  try simp only [lay]
  refine hh.tl 6 ⟨some 20, Op.lookup 83 (.tmp 17) (.tmp 19) true, _, _, _, _⟩ ?v117 rfl ?hy117 ?_
  case hy117 => ((intro w0 hSw; obtain ⟨⟨hs0, hs1, hs2⟩, ⟨hs3, hs4, hs5⟩, hs6⟩ := HK.out w0 hSw; go_simp); try (with_reducible rfl))
  try simp only [lay]
  refine hh.tl 7 ⟨some 13, Op.move (.tmp 20), _, _, _, _⟩ ?v118 rfl ?hy118 ?_
  case hy118 => ((intro w0 hSw; obtain ⟨⟨hs0, hs1, hs2⟩, ⟨hs3, hs4, hs5⟩, hs6⟩ := HK.out w0 hSw; go_simp); try (with_reducible rfl))
  try simp only [lay]
  refine hh.tl 8 ⟨some 21, Op.extract (.tmp 13) 0, _, _, _, _⟩ ?v119 rfl ?hy119 ?_
  case hy119 => ((intro w0 hSw; obtain ⟨⟨hs0, hs1, hs2⟩, ⟨hs3, hs4, hs5⟩, hs6⟩ := HK.out w0 hSw; go_simp); try (with_reducible rfl))
  try simp only [lay]
  refine hh.tl 9 ⟨some 22, Op.extract (.tmp 13) 1, _, _, _, _⟩ ?v120 rfl ?hy120 ?_
  case hy120 => ((intro w0 hSw; obtain ⟨⟨hs0, hs1, hs2⟩, ⟨hs3, hs4, hs5⟩, hs6⟩ := HK.out w0 hSw; go_simp); try (with_reducible rfl))
  try simp only [lay]
  refine rd1 (i := 10) (o := ⟨some 5, Op.alloc 80, _, _, _, _⟩) rfl (fun K hK => ?_)
  go_simp
  refine hK.out _ _ (grown_alloc hHeld _) (fun hHeld => ?_)
  clear hK K
  try simp only [lay]
  refine rd1 (i := 11) (o := ⟨none, Op.store 80 (.tmp 5) (.tmp 21), _, _, _, _⟩) rfl (fun K hK => ?_)
  go_simp
  refine hK.out _ _ (grown_alloc HD.out _) (fun hHeld => ?_)
  clear hK K
  try simp only [lay]
  refine hh.tl 12 ⟨some 6, Op.assign (.tmp 22), _, _, _, _⟩ ?v121 rfl ?hy121 ?_
  case hy121 => ((intro w0 hSw; go_simp); try (with_reducible rfl))
  try simp only [lay]
  refine wpAnyH_done (by kernel_rfl) ?_ _
  obtain ⟨⟨f0, f1, f2⟩, ⟨f3, f4, f5⟩, f6⟩ := HK.out wd HD.out
  have hlt : w.heap.size < wd.heap.size := Nat.lt_of_lt_of_le HX.out HD.out.size
  have hne : ¬ w.heap.size = wd.heap.size := Nat.ne_of_lt hlt
  have hht : h < wd.heap.size := Nat.lt_trans HL.out hlt
  have hhe : ¬ h = wd.heap.size := Nat.ne_of_lt hht
  go_wp2_with (go_at_call 42; ((with_reducible refine (HQ.out _ (grown_alloc HD.out _)).mono ?_); rintro e w5 ⟨rfl, hq5⟩; have HQ5 := qh hq5; clear hq5))
  go_ret
  obtain ⟨nq, rfl⟩ := HQ5.out
  exact ⟨rfl, grown_trans HG.out (tt.grown_drewN (grown_alloc HD.out _) _)⟩
theorem ha_of {m : Nat} {f : Int} (hf : -1 ≤ f ∧ f ≤ 15) (h0 : 0 ≤ f) : mm.ha m f = m.testBit f.toNat := by
  unfold mm.ha
  rw [decide_eq_true (p := 0 ≤ f ∧ f < 32) (by omega), Bool.true_and]
/-- A note to the home: its kind, its core. -/
theorem to_home {n : Nt} (hf : fits c n) (ht : n.t = -1) : (n.k = 1 ∨ n.k = 2 ∨ n.k = 3 ∨ n.k = 9 ∨ n.k = 10 ∨ n.k = 11) ∧ 0 ≤ n.f ∧ n.f ≤ 15 := by
  have h1 := hf.1.1
  have hr := (tt.rule_ok n h1 hf.1.2.1).1 hf.1
  have hT : tt.tH n.k = true := by
    cases h : tt.tH n.k with
    | true => rfl
    | false =>
      have := hr.core
      rw [h] at this
      simp at this
      omega
  have hc := hr.core
  rw [hT] at hc
  have hT' : 1 ≤ n.k ∧ n.k ≤ 3 ∨ 9 ≤ n.k ∧ n.k ≤ 11 := of_decide_eq_true hT
  simp at hc
  omega
theorem net_asks {k : Int} (h : 1 ≤ k ∧ k ≤ 11) : net k = 0 ↔ (k = 1 ∨ k = 2 ∨ k = 3) := by
  unfold tt.net
  rw [if_pos h]
  constructor
  · intro e
    by_cases h3 : k ≤ 3
    · omega
    · rw [if_neg h3] at e
      split at e <;> simp at e
  · intro e; rw [if_pos (by omega)]
theorem ready_any (A : HomeAt w h c F H) (hK : tt.TabK w) (n : Nt) : Calls Tryd.prog 18 #[.pointer (some ⟨h, 0, none⟩), .agg (na n)] w fun e w' => e = .returned (.int .i64 (ready c H n)) ∧ w.grownBy w' none := by
  by_cases hf : fits c n ∧ n.t = -1
  · obtain ⟨hk, hf0, hf1⟩ := to_home hf.1 hf.2
    unfold ready
    rw [if_neg (fun (e : ¬ fits c n ∨ n.t ≠ -1) => e.elim (fun e => e hf.1) (fun e => e hf.2))]
    have hna := net_asks hf.1.1.1
    have hrl := room_le A.inv.may
    cases hj : jbOf H n.b.toNat with
    | none =>
      have hx : askOr H n.b.toNat = #[.int .u8 0, .int .i64 0, .int .u32 ((0 : Nat) : Int), .bool false, .int .u64 0] := by unfold askOr; rw [hj]; rfl
      have hi : (jbOf H n.b.toNat).isSome = false := by rw [hj]; rfl
      rcases hk with hk | hk | hk | hk | hk | hk
      · rw [if_pos (hna.2 (by omega)), if_neg (by simp)]
        exact ready_new A hK n hf _ _ _ _ _ _ hx hi (by omega) rfl
      · rw [if_pos (hna.2 (by omega)), if_neg (by simp)]
        exact ready_new A hK n hf _ _ _ _ _ _ hx hi (by omega) rfl
      · rw [if_pos (hna.2 (by omega)), if_neg (by simp)]
        exact ready_new A hK n hf _ _ _ _ _ _ hx hi (by omega) rfl
      · rw [if_neg (fun e => by have := hna.1 e; omega)]
        exact ready_9_f A hK n hf _ _ _ _ _ _ hx hi hk (by decide) (by rw [ha_of ⟨by omega, hf1⟩ hf0]; simp)
      · rw [if_neg (fun e => by have := hna.1 e; omega)]
        exact ready_10_f A hK n hf _ _ _ _ _ _ hx hi hk (by decide) (by rw [ha_of ⟨by omega, hf1⟩ hf0]; simp)
      · rw [if_neg (fun e => by have := hna.1 e; omega)]
        exact ready_11_no A hK n hf _ _ _ _ _ _ hx hi hk rfl
    | some j =>
      have hx : askOr H n.b.toNat = #[.int .u8 j.a.k, .int .i64 j.a.f, .int .u32 (j.w : Int), .bool j.r, .int .u64 j.l] := by unfold askOr; rw [hj]; rfl
      have hi : (jbOf H n.b.toNat).isSome = true := by rw [hj]; rfl
      have hjo := A.inv.jobs _ j (jbOf_get hj)
      have hok := A.ok _ j (jbOf_get hj)
      have asks : (n.k = 1 ∨ n.k = 2 ∨ n.k = 3) → Calls Tryd.prog 18 #[.pointer (some ⟨h, 0, none⟩), .agg (na n)] w fun e w' => e = .returned (.int .i64 (if (some j).isSome = true ∧ roomH c ≤ (H.wt.length : Int) then 110 else 0)) ∧ w.grownBy w' none := fun hk => by
        by_cases hr : room c ≤ H.wt.length
        · rw [if_pos ⟨rfl, by omega⟩]; exact ready_full A hK n hf _ _ _ _ _ _ hx hi hk rfl hr
        · rw [if_neg (fun e => by have := e.2; omega)]; exact ready_wait A hK n hf _ _ _ _ _ _ hx hi hk rfl hr
      have ack : j.d = false ∧ j.w.testBit n.f.toNat = true ↔ mm.ha j.w n.f = true := by
        rw [ha_of ⟨by omega, hf1⟩ hf0]
        refine ⟨fun e => e.2, fun e => ⟨?_, e⟩⟩
        rw [hok]
        exact decide_eq_false (fun e0 => by rw [e0] at e; simp at e)
      rcases hk with hk | hk | hk | hk | hk | hk
      · rw [if_pos (hna.2 (by omega))]; exact asks (by omega)
      · rw [if_pos (hna.2 (by omega))]; exact asks (by omega)
      · rw [if_pos (hna.2 (by omega))]; exact asks (by omega)
      · rw [if_neg (fun e => by have := hna.1 e; omega)]
        dsimp only
        rw [if_neg (by omega)]
        by_cases hh : mm.ha j.w n.f = true
        · rw [if_pos (ack.2 hh)]; exact ready_9_t A hK n hf _ _ _ _ _ _ hx hi hk hjo.w hh
        · rw [if_neg (fun e => hh (ack.1 e))]; exact ready_9_f A hK n hf _ _ _ _ _ _ hx hi hk hjo.w (by simpa using hh)
      · rw [if_neg (fun e => by have := hna.1 e; omega)]
        dsimp only
        rw [if_neg (by omega)]
        by_cases hh : mm.ha j.w n.f = true
        · rw [if_pos (ack.2 hh)]; exact ready_10_t A hK n hf _ _ _ _ _ _ hx hi hk hjo.w hh
        · rw [if_neg (fun e => hh (ack.1 e))]; exact ready_10_f A hK n hf _ _ _ _ _ _ hx hi hk hjo.w (by simpa using hh)
      · rw [if_neg (fun e => by have := hna.1 e; omega)]
        dsimp only
        rw [if_pos hk]
        by_cases hw : j.w = 0
        · have hd : j.d = true := by rw [hok]; exact decide_eq_true hw
          by_cases hc : j.a.f = n.f
          · rw [if_pos ⟨hd, hc⟩]; exact ready_11_yes A hK n hf _ _ _ _ _ _ hx hi hk rfl (by rw [hw]; rfl) (by simpa using hc)
          · rw [if_neg (fun e => hc e.2)]; exact ready_11_not A hK n hf _ _ _ _ _ _ hx hi hk rfl (by rw [hw]; rfl) (by simpa using hc)
        · have hd : j.d = false := by rw [hok]; exact decide_eq_false hw
          rw [if_neg (fun e => by rw [hd] at e; exact absurd e.1 (by decide))]
          exact ready_11_left A hK n hf _ _ _ _ _ _ hx hi hk rfl (by simp; omega)
  · have hr : ready c H n = 2 := by
      unfold ready
      rw [if_pos]
      by_cases h1 : fits c n
      · exact .inr fun e => hf ⟨h1, e⟩
      · exact .inl h1
    rw [hr]
    exact ready_bad A hK n hf
end
end Go.Proofs.YtenhdijbcdkfbaaDoor.hh
