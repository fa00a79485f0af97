/-
  What Ready of a home answers: contract. Condition: the table of kinds lies in its variable as the program's text has it.
-/
import Derived.Test.YtenhdijbcdkfbaaDoorHc
namespace Go.Proofs.YtenhdijbcdkfbaaDoor.hh
open Go Go.ChangeShapes Go.WideShapes Go.ChangeAt Go.RowKit
open Go.Proofs.YtenhdijbcdkfbaaDoor.tt (Nt Cfg fits net bare zd usd uses coreOf ok_ends MapAt mput mdel ik NPool NSl Turn flat na nt zn grown_alloc grown_refl grown_trans tyne lt_of)
open Go.Proofs.YtenhdijbcdkfbaaDoor.en (En gets back asked asks free ask_parts may_parts ea)
open Go.Proofs.YtenhdijbcdkfbaaDoor.mm (wi wo ones wo_lt)
set_option linter.unusedVariables false


section
variable {w : World} {h : Nat} {c : Cfg} {F : Ft} {H : Hm}
set_option maxRecDepth 1000000 in
set_option maxHeartbeats 2000000 in
theorem ready_bad (A : HomeAt w h c F H) (hK : tt.TabK w) (n : Nt) (hf : ¬ (fits c n ∧ n.t = -1)) : Calls Tryd.prog 18 #[.pointer (some ⟨h, 0, none⟩), .agg (na n)] w fun e w' => e = .returned (.int .i64 2) ∧ w.grownBy w' none := by
  obtain ⟨wb, hwb⟩ : ∃ wb, w.alloc (.cells (na n) 31) = wb := ⟨_, rfl⟩
  have hgb : w.grownBy wb none := by rw [← hwb]; exact grown_alloc (grown_refl _ _) _
  have HA : Hid (∀ w', wb.grownBy w' none → HomeAt w' h c F H) := Lib.hid fun w' h' => A.grown (grown_trans hgb h')
  have hbx : wb.heap[w.heap.size]? = some (.cells (na n) 31 (0, 0)) := by rw [← hwb]; exact heap_alloc_new _ _
  have HR : Hid (∀ w', wb.grownBy w' none → w'.rangeAt w.heap.size 0 (nt n)) := Lib.hid fun w' h => tt.range_grown (tt.range_of hbx) h (by simp)
  have HM : Hid (∀ w', wb.grownBy w' none → _) := Lib.hid fun w' h' => hfits_any (HA.out w' h') ((hK.grown hgb).grown h') n
  have HG := Lib.hid hgb
  have HL : Hid (h < w.heap.size) := Lib.hid A.lt
  have HX : Hid (w.heap.size < wb.heap.size) := Lib.hid (lt_of hbx)
  rw [decide_eq_false hf] at HM
  clear A hK hgb hbx hf
  go_enter Tryd.func18, Tryd.ntmps18
  go_wp2_with (first
    | ((with_reducible refine tt.load_nt n _ w.heap.size ?_ (HR.out _ (grown_refl _ _)) ?_); (rfl))
    | (go_at_call 40; ((with_reducible refine (HM.out _ (grown_refl _ _)).mono ?_); rintro e w1 ⟨rfl, hg1⟩; have HG1 := Lib.hid hg1; clear hg1)))
  go_ret
  exact ⟨rfl, grown_trans HG.out HG1.out⟩
set_option maxRecDepth 1000000 in
set_option maxHeartbeats 2000000 in
theorem ready_9_t (A : HomeAt w h c F H) (hK : tt.TabK w) (n : Nt) (hf : fits c n ∧ n.t = -1) (a0 a1 : Int) (a2 : Nat) (a3 : Bool) (a4 : Int) (is : Bool) (hx : askOr H n.b.toNat = #[.int .u8 a0, .int .i64 a1, .int .u32 (a2 : Int), .bool a3, .int .u64 a4]) (hi : (jbOf H n.b.toNat).isSome = is) (hk : n.k = 9) (hm : a2 < 4294967296) (hh : mm.ha a2 n.f = true) : Calls Tryd.prog 18 #[.pointer (some ⟨h, 0, none⟩), .agg (na n)] w fun e w' => e = .returned (.int .i64 0) ∧ w.grownBy w' none := by
  obtain ⟨wb, hwb⟩ : ∃ wb, w.alloc (.cells (na n) 31) = wb := ⟨_, rfl⟩
  have hgb : w.grownBy wb none := by rw [← hwb]; exact grown_alloc (grown_refl _ _) _
  have HA : Hid (∀ w', wb.grownBy w' none → HomeAt w' h c F H) := Lib.hid fun w' h' => A.grown (grown_trans hgb h')
  have hbx : wb.heap[w.heap.size]? = some (.cells (na n) 31 (0, 0)) := by rw [← hwb]; exact heap_alloc_new _ _
  have HR : Hid (∀ w', wb.grownBy w' none → w'.rangeAt w.heap.size 0 (nt n)) := Lib.hid fun w' h => tt.range_grown (tt.range_of hbx) h (by simp)
  have HM : Hid (∀ w', wb.grownBy w' none → _) := Lib.hid fun w' h' => hfits_any (HA.out w' h') ((hK.grown hgb).grown h') n
  have HG := Lib.hid hgb
  have HL : Hid (h < w.heap.size) := Lib.hid A.lt
  have HX : Hid (w.heap.size < wb.heap.size) := Lib.hid (lt_of hbx)
  rw [decide_eq_true hf] at HM
  have HK : Hid (∀ w', wb.grownBy w' none → (w'.cell? ⟨h, 0, none⟩ = some (.int .i64 c.co) ∧ w'.cell? ⟨h, 3, none⟩ = some (.map (some F.ub)) ∧ w'.cell? ⟨h, 4, none⟩ = some (.pointer (some ⟨F.pb, 0, none⟩))) ∧ (w'.cell? ⟨w.heap.size, 0, none⟩ = some (.int .u8 n.k) ∧ w'.cell? ⟨w.heap.size, 1, none⟩ = some (.int .i64 n.f) ∧ w'.cell? ⟨w.heap.size, 3, none⟩ = some (.int .i64 n.b)) ∧ (Instr.lookup 83 (.map (some F.ub)) (.int .i64 n.b) true).run Tryd.prog w' = .ok (.tuple #[.agg #[.int .u8 a0, .int .i64 a1, .int .u32 (a2 : Int), .bool a3, .int .u64 a4], .bool is]) w') := Lib.hid fun w' h' => by
    have hA := HA.out w' h'
    have hb := (blk_lt hf.1).1
    refine ⟨⟨hA.cells.1, hA.cells.2.2.2.1, hA.cells.2.2.2.2⟩, ⟨tt.cell_at (HR.out w' h') 0 _ rfl, tt.cell_at (HR.out w' h') 1 _ rfl, tt.cell_at (HR.out w' h') 3 _ rfl⟩, ?_⟩
    have := hA.look n.b.toNat
    rw [Int.toNat_of_nonneg hb, hx, hi] at this
    exact this
  have e9 : (n.k == 9) = true := by rw [hk]; rfl
  have HQ : Hid (∀ w, _) := Lib.hid fun w => mm.has_any a2 n.f w hm
  rw [hh] at HQ
  clear hk hm hh
  have HHX := Lib.hid hx
  have HHI := Lib.hid hi
  clear A hK hgb hbx hf hx hi
  go_enter Tryd.func18, Tryd.ntmps18
  go_wp2_with (first
    | ((with_reducible refine tt.load_nt n _ w.heap.size ?_ (HR.out _ (grown_refl _ _)) ?_); (rfl))
    | (go_at_call 40; ((with_reducible refine (HM.out _ (grown_refl _ _)).mono ?_); rintro e w1 ⟨rfl, hg1⟩; have HG1 := Lib.hid hg1; clear hg1)))
  refine wp_region_held_drew (S := fun w' => wb.grownBy w' none) (by kernel_rfl) (tt.grown_drew HG1.out) (fun hHeld => ?_)
  generalize w1.drew = wd at hHeld ⊢
  have HD := Lib.hid hHeld
  refine tk (i := 0) (oi := ⟨some 14, Op.move (Operand.tmp 0), _, _, _, _⟩) (v := ?v1) rfl (Or.inl ⟨by rfl, ?hy1⟩) (by assumption) ?_
  case hy1 => ((intro w0 hSw; obtain ⟨⟨hs0, hs1, hs2⟩, ⟨hs3, hs4, hs5⟩, hs6⟩ := HK.out w0 hSw; go_simp); try (with_reducible rfl))
  try simp only [Act.put, lay1, lay2, lay3]
  refine tk (i := 1) (oi := ⟨some 15, Op.nilCheck (Operand.tmp 14), _, _, _, _⟩) (v := ?v2) rfl (Or.inl ⟨by rfl, ?hy2⟩) (by assumption) ?_
  case hy2 => ((intro w0 hSw; obtain ⟨⟨hs0, hs1, hs2⟩, ⟨hs3, hs4, hs5⟩, hs6⟩ := HK.out w0 hSw; go_simp); try (with_reducible rfl))
  try simp only [Act.put, lay1, lay2, lay3]
  refine tk (i := 2) (oi := ⟨some 16, Op.fieldAddr 86 (Operand.tmp 15) 3, _, _, _, _⟩) (v := ?v3) rfl (Or.inl ⟨by rfl, ?hy3⟩) (by assumption) ?_
  case hy3 => ((intro w0 hSw; obtain ⟨⟨hs0, hs1, hs2⟩, ⟨hs3, hs4, hs5⟩, hs6⟩ := HK.out w0 hSw; go_simp); try (with_reducible rfl))
  try simp only [Act.put, lay1, lay2, lay3]
  refine tk (i := 3) (oi := ⟨some 17, Op.load 83 (Operand.tmp 16), _, _, _, _⟩) (v := ?v4) rfl (Or.inl ⟨by rfl, ?hy4⟩) (by assumption) ?_
  case hy4 => ((intro w0 hSw; obtain ⟨⟨hs0, hs1, hs2⟩, ⟨hs3, hs4, hs5⟩, hs6⟩ := HK.out w0 hSw; go_simp); try (with_reducible rfl))
  try simp only [Act.put, lay1, lay2, lay3]
  refine tk (i := 4) (oi := ⟨some 18, Op.fieldAddr 31 (Operand.tmp 3) 3, _, _, _, _⟩) (v := ?v5) rfl (Or.inl ⟨by rfl, ?hy5⟩) (by assumption) ?_
  case hy5 => ((intro w0 hSw; obtain ⟨⟨hs0, hs1, hs2⟩, ⟨hs3, hs4, hs5⟩, hs6⟩ := HK.out w0 hSw; go_simp); try (with_reducible rfl))
  try simp only [Act.put, lay1, lay2, lay3]
  refine tk (i := 5) (oi := ⟨some 19, Op.load 3 (Operand.tmp 18), _, _, _, _⟩) (v := ?v6) rfl (Or.inl ⟨by rfl, ?hy6⟩) (by assumption) ?_
  case hy6 => ((intro w0 hSw; obtain ⟨⟨hs0, hs1, hs2⟩, ⟨hs3, hs4, hs5⟩, hs6⟩ := HK.out w0 hSw; go_simp); try (with_reducible rfl))
  try simp only [Act.put, lay1, lay2, lay3]
  refine tk (i := 6) (oi := ⟨some 20, Op.lookup 83 (Operand.tmp 17) (Operand.tmp 19) true, _, _, _, _⟩) (v := ?v7) rfl (Or.inl ⟨by rfl, ?hy7⟩) (by assumption) ?_
  case hy7 => ((intro w0 hSw; obtain ⟨⟨hs0, hs1, hs2⟩, ⟨hs3, hs4, hs5⟩, hs6⟩ := HK.out w0 hSw; go_simp); try (with_reducible rfl))
  try simp only [Act.put, lay1, lay2, lay3]
  refine tk (i := 7) (oi := ⟨some 13, Op.move (Operand.tmp 20), _, _, _, _⟩) (v := ?v8) rfl (Or.inl ⟨by rfl, ?hy8⟩) (by assumption) ?_
  case hy8 => ((intro w0 hSw; obtain ⟨⟨hs0, hs1, hs2⟩, ⟨hs3, hs4, hs5⟩, hs6⟩ := HK.out w0 hSw; go_simp); try (with_reducible rfl))
  try simp only [Act.put, lay1, lay2, lay3]
  refine tk (i := 8) (oi := ⟨some 21, Op.extract (Operand.tmp 13) 0, _, _, _, _⟩) (v := ?v9) rfl (Or.inl ⟨by rfl, ?hy9⟩) (by assumption) ?_
  case hy9 => ((intro w0 hSw; obtain ⟨⟨hs0, hs1, hs2⟩, ⟨hs3, hs4, hs5⟩, hs6⟩ := HK.out w0 hSw; go_simp); try (with_reducible rfl))
  try simp only [Act.put, lay1, lay2, lay3]
  refine tk (i := 9) (oi := ⟨some 22, Op.extract (Operand.tmp 13) 1, _, _, _, _⟩) (v := ?v10) rfl (Or.inl ⟨by rfl, ?hy10⟩) (by assumption) ?_
  case hy10 => ((intro w0 hSw; obtain ⟨⟨hs0, hs1, hs2⟩, ⟨hs3, hs4, hs5⟩, hs6⟩ := HK.out w0 hSw; go_simp); try (with_reducible rfl))
  try simp only [Act.put, lay1, lay2, lay3]
  refine rd1 (i := 10) (o := ⟨some 5, Op.alloc 80, _, _, _, _⟩) rfl (fun K hK => ?_)
  go_simp
  refine hK.out _ _ (grown_alloc hHeld _) (fun hHeld => ?_)
  clear hK K
  try simp only [Act.put, lay1, lay2, lay3]
  refine rd1 (i := 11) (o := ⟨none, Op.store 80 (Operand.tmp 5) (Operand.tmp 21), _, _, _, _⟩) rfl (fun K hK => ?_)
  go_simp
  refine hK.out _ _ (grown_alloc HD.out _) (fun hHeld => ?_)
  clear hK K
  try simp only [Act.put, lay1, lay2, lay3]
  refine tk (i := 12) (oi := ⟨some 6, Op.assign (Operand.tmp 22), _, _, _, _⟩) (v := ?v11) rfl (Or.inl ⟨by rfl, ?hy11⟩) (by assumption) ?_
  case hy11 => ((intro w0 hSw; go_simp); try (with_reducible rfl))
  try simp only [Act.put, lay1, lay2, lay3]
  refine wpAnyH_done (by kernel_rfl) ?_ _
  obtain ⟨⟨f0, f1, f2⟩, ⟨f3, f4, f5⟩, f6⟩ := HK.out wd HD.out
  have hlt : w.heap.size < wd.heap.size := Nat.lt_of_lt_of_le HX.out HD.out.size
  have hne : ¬ w.heap.size = wd.heap.size := Nat.ne_of_lt hlt
  have hht : h < wd.heap.size := Nat.lt_trans HL.out hlt
  have hhe : ¬ h = wd.heap.size := Nat.ne_of_lt hht
  go_wp2_with (go_at_call 41; ((with_reducible refine (HQ.out _).mono ?_); rintro e w5 ⟨rfl, rfl⟩))
  go_ret
  exact ⟨rfl, grown_trans HG.out (grown_alloc HD.out _)⟩
set_option maxRecDepth 1000000 in
set_option maxHeartbeats 2000000 in
theorem ready_9_f (A : HomeAt w h c F H) (hK : tt.TabK w) (n : Nt) (hf : fits c n ∧ n.t = -1) (a0 a1 : Int) (a2 : Nat) (a3 : Bool) (a4 : Int) (is : Bool) (hx : askOr H n.b.toNat = #[.int .u8 a0, .int .i64 a1, .int .u32 (a2 : Int), .bool a3, .int .u64 a4]) (hi : (jbOf H n.b.toNat).isSome = is) (hk : n.k = 9) (hm : a2 < 4294967296) (hh : mm.ha a2 n.f = false) : Calls Tryd.prog 18 #[.pointer (some ⟨h, 0, none⟩), .agg (na n)] w fun e w' => e = .returned (.int .i64 8) ∧ w.grownBy w' none := by
  obtain ⟨wb, hwb⟩ : ∃ wb, w.alloc (.cells (na n) 31) = wb := ⟨_, rfl⟩
  have hgb : w.grownBy wb none := by rw [← hwb]; exact grown_alloc (grown_refl _ _) _
  have HA : Hid (∀ w', wb.grownBy w' none → HomeAt w' h c F H) := Lib.hid fun w' h' => A.grown (grown_trans hgb h')
  have hbx : wb.heap[w.heap.size]? = some (.cells (na n) 31 (0, 0)) := by rw [← hwb]; exact heap_alloc_new _ _
  have HR : Hid (∀ w', wb.grownBy w' none → w'.rangeAt w.heap.size 0 (nt n)) := Lib.hid fun w' h => tt.range_grown (tt.range_of hbx) h (by simp)
  have HM : Hid (∀ w', wb.grownBy w' none → _) := Lib.hid fun w' h' => hfits_any (HA.out w' h') ((hK.grown hgb).grown h') n
  have HG := Lib.hid hgb
  have HL : Hid (h < w.heap.size) := Lib.hid A.lt
  have HX : Hid (w.heap.size < wb.heap.size) := Lib.hid (lt_of hbx)
  rw [decide_eq_true hf] at HM
  have HK : Hid (∀ w', wb.grownBy w' none → (w'.cell? ⟨h, 0, none⟩ = some (.int .i64 c.co) ∧ w'.cell? ⟨h, 3, none⟩ = some (.map (some F.ub)) ∧ w'.cell? ⟨h, 4, none⟩ = some (.pointer (some ⟨F.pb, 0, none⟩))) ∧ (w'.cell? ⟨w.heap.size, 0, none⟩ = some (.int .u8 n.k) ∧ w'.cell? ⟨w.heap.size, 1, none⟩ = some (.int .i64 n.f) ∧ w'.cell? ⟨w.heap.size, 3, none⟩ = some (.int .i64 n.b)) ∧ (Instr.lookup 83 (.map (some F.ub)) (.int .i64 n.b) true).run Tryd.prog w' = .ok (.tuple #[.agg #[.int .u8 a0, .int .i64 a1, .int .u32 (a2 : Int), .bool a3, .int .u64 a4], .bool is]) w') := Lib.hid fun w' h' => by
    have hA := HA.out w' h'
    have hb := (blk_lt hf.1).1
    refine ⟨⟨hA.cells.1, hA.cells.2.2.2.1, hA.cells.2.2.2.2⟩, ⟨tt.cell_at (HR.out w' h') 0 _ rfl, tt.cell_at (HR.out w' h') 1 _ rfl, tt.cell_at (HR.out w' h') 3 _ rfl⟩, ?_⟩
    have := hA.look n.b.toNat
    rw [Int.toNat_of_nonneg hb, hx, hi] at this
    exact this
  have e9 : (n.k == 9) = true := by rw [hk]; rfl
  have HQ : Hid (∀ w, _) := Lib.hid fun w => mm.has_any a2 n.f w hm
  rw [hh] at HQ
  clear hk hm hh
  have HHX := Lib.hid hx
  have HHI := Lib.hid hi
  clear A hK hgb hbx hf hx hi
  go_enter Tryd.func18, Tryd.ntmps18
  go_wp2_with (first
    | ((with_reducible refine tt.load_nt n _ w.heap.size ?_ (HR.out _ (grown_refl _ _)) ?_); (rfl))
    | (go_at_call 40; ((with_reducible refine (HM.out _ (grown_refl _ _)).mono ?_); rintro e w1 ⟨rfl, hg1⟩; have HG1 := Lib.hid hg1; clear hg1)))
  refine wp_region_held_drew (S := fun w' => wb.grownBy w' none) (by kernel_rfl) (tt.grown_drew HG1.out) (fun hHeld => ?_)
  generalize w1.drew = wd at hHeld ⊢
  have HD := Lib.hid hHeld
  refine tk (i := 0) (oi := ⟨some 14, Op.move (Operand.tmp 0), _, _, _, _⟩) (v := ?v12) rfl (Or.inl ⟨by rfl, ?hy12⟩) (by assumption) ?_
  case hy12 => ((intro w0 hSw; obtain ⟨⟨hs0, hs1, hs2⟩, ⟨hs3, hs4, hs5⟩, hs6⟩ := HK.out w0 hSw; go_simp); try (with_reducible rfl))
  try simp only [Act.put, lay1, lay2, lay3]
  refine tk (i := 1) (oi := ⟨some 15, Op.nilCheck (Operand.tmp 14), _, _, _, _⟩) (v := ?v13) rfl (Or.inl ⟨by rfl, ?hy13⟩) (by assumption) ?_
  case hy13 => ((intro w0 hSw; obtain ⟨⟨hs0, hs1, hs2⟩, ⟨hs3, hs4, hs5⟩, hs6⟩ := HK.out w0 hSw; go_simp); try (with_reducible rfl))
  try simp only [Act.put, lay1, lay2, lay3]
  refine tk (i := 2) (oi := ⟨some 16, Op.fieldAddr 86 (Operand.tmp 15) 3, _, _, _, _⟩) (v := ?v14) rfl (Or.inl ⟨by rfl, ?hy14⟩) (by assumption) ?_
  case hy14 => ((intro w0 hSw; obtain ⟨⟨hs0, hs1, hs2⟩, ⟨hs3, hs4, hs5⟩, hs6⟩ := HK.out w0 hSw; go_simp); try (with_reducible rfl))
  try simp only [Act.put, lay1, lay2, lay3]
  refine tk (i := 3) (oi := ⟨some 17, Op.load 83 (Operand.tmp 16), _, _, _, _⟩) (v := ?v15) rfl (Or.inl ⟨by rfl, ?hy15⟩) (by assumption) ?_
  case hy15 => ((intro w0 hSw; obtain ⟨⟨hs0, hs1, hs2⟩, ⟨hs3, hs4, hs5⟩, hs6⟩ := HK.out w0 hSw; go_simp); try (with_reducible rfl))
  try simp only [Act.put, lay1, lay2, lay3]
  refine tk (i := 4) (oi := ⟨some 18, Op.fieldAddr 31 (Operand.tmp 3) 3, _, _, _, _⟩) (v := ?v16) rfl (Or.inl ⟨by rfl, ?hy16⟩) (by assumption) ?_
  case hy16 => ((intro w0 hSw; obtain ⟨⟨hs0, hs1, hs2⟩, ⟨hs3, hs4, hs5⟩, hs6⟩ := HK.out w0 hSw; go_simp); try (with_reducible rfl))
  try simp only [Act.put, lay1, lay2, lay3]
  refine tk (i := 5) (oi := ⟨some 19, Op.load 3 (Operand.tmp 18), _, _, _, _⟩) (v := ?v17) rfl (Or.inl ⟨by rfl, ?hy17⟩) (by assumption) ?_
  case hy17 => ((intro w0 hSw; obtain ⟨⟨hs0, hs1, hs2⟩, ⟨hs3, hs4, hs5⟩, hs6⟩ := HK.out w0 hSw; go_simp); try (with_reducible rfl))
  try simp only [Act.put, lay1, lay2, lay3]
  refine tk (i := 6) (oi := ⟨some 20, Op.lookup 83 (Operand.tmp 17) (Operand.tmp 19) true, _, _, _, _⟩) (v := ?v18) rfl (Or.inl ⟨by rfl, ?hy18⟩) (by assumption) ?_
  case hy18 => ((intro w0 hSw; obtain ⟨⟨hs0, hs1, hs2⟩, ⟨hs3, hs4, hs5⟩, hs6⟩ := HK.out w0 hSw; go_simp); try (with_reducible rfl))
  try simp only [Act.put, lay1, lay2, lay3]
  refine tk (i := 7) (oi := ⟨some 13, Op.move (Operand.tmp 20), _, _, _, _⟩) (v := ?v19) rfl (Or.inl ⟨by rfl, ?hy19⟩) (by assumption) ?_
  case hy19 => ((intro w0 hSw; obtain ⟨⟨hs0, hs1, hs2⟩, ⟨hs3, hs4, hs5⟩, hs6⟩ := HK.out w0 hSw; go_simp); try (with_reducible rfl))
  try simp only [Act.put, lay1, lay2, lay3]
  refine tk (i := 8) (oi := ⟨some 21, Op.extract (Operand.tmp 13) 0, _, _, _, _⟩) (v := ?v20) rfl (Or.inl ⟨by rfl, ?hy20⟩) (by assumption) ?_
  case hy20 => ((intro w0 hSw; obtain ⟨⟨hs0, hs1, hs2⟩, ⟨hs3, hs4, hs5⟩, hs6⟩ := HK.out w0 hSw; go_simp); try (with_reducible rfl))
  try simp only [Act.put, lay1, lay2, lay3]
  refine tk (i := 9) (oi := ⟨some 22, Op.extract (Operand.tmp 13) 1, _, _, _, _⟩) (v := ?v21) rfl (Or.inl ⟨by rfl, ?hy21⟩) (by assumption) ?_
  case hy21 => ((intro w0 hSw; obtain ⟨⟨hs0, hs1, hs2⟩, ⟨hs3, hs4, hs5⟩, hs6⟩ := HK.out w0 hSw; go_simp); try (with_reducible rfl))
  try simp only [Act.put, lay1, lay2, lay3]
  refine rd1 (i := 10) (o := ⟨some 5, Op.alloc 80, _, _, _, _⟩) rfl (fun K hK => ?_)
  go_simp
  refine hK.out _ _ (grown_alloc hHeld _) (fun hHeld => ?_)
  clear hK K
  try simp only [Act.put, lay1, lay2, lay3]
  refine rd1 (i := 11) (o := ⟨none, Op.store 80 (Operand.tmp 5) (Operand.tmp 21), _, _, _, _⟩) rfl (fun K hK => ?_)
  go_simp
  refine hK.out _ _ (grown_alloc HD.out _) (fun hHeld => ?_)
  clear hK K
  try simp only [Act.put, lay1, lay2, lay3]
  refine tk (i := 12) (oi := ⟨some 6, Op.assign (Operand.tmp 22), _, _, _, _⟩) (v := ?v22) rfl (Or.inl ⟨by rfl, ?hy22⟩) (by assumption) ?_
  case hy22 => ((intro w0 hSw; go_simp); try (with_reducible rfl))
  try simp only [Act.put, lay1, lay2, lay3]
  refine wpAnyH_done (by kernel_rfl) ?_ _
  obtain ⟨⟨f0, f1, f2⟩, ⟨f3, f4, f5⟩, f6⟩ := HK.out wd HD.out
  have hlt : w.heap.size < wd.heap.size := Nat.lt_of_lt_of_le HX.out HD.out.size
  have hne : ¬ w.heap.size = wd.heap.size := Nat.ne_of_lt hlt
  have hht : h < wd.heap.size := Nat.lt_trans HL.out hlt
  have hhe : ¬ h = wd.heap.size := Nat.ne_of_lt hht
  go_wp2_with (go_at_call 41; ((with_reducible refine (HQ.out _).mono ?_); rintro e w5 ⟨rfl, rfl⟩))
  go_ret
  exact ⟨rfl, grown_trans HG.out (grown_alloc HD.out _)⟩
set_option maxRecDepth 1000000 in
set_option maxHeartbeats 2000000 in
theorem ready_10_t (A : HomeAt w h c F H) (hK : tt.TabK w) (n : Nt) (hf : fits c n ∧ n.t = -1) (a0 a1 : Int) (a2 : Nat) (a3 : Bool) (a4 : Int) (is : Bool) (hx : askOr H n.b.toNat = #[.int .u8 a0, .int .i64 a1, .int .u32 (a2 : Int), .bool a3, .int .u64 a4]) (hi : (jbOf H n.b.toNat).isSome = is) (hk : n.k = 10) (hm : a2 < 4294967296) (hh : mm.ha a2 n.f = true) : Calls Tryd.prog 18 #[.pointer (some ⟨h, 0, none⟩), .agg (na n)] w fun e w' => e = .returned (.int .i64 0) ∧ w.grownBy w' none := by
  obtain ⟨wb, hwb⟩ : ∃ wb, w.alloc (.cells (na n) 31) = wb := ⟨_, rfl⟩
  have hgb : w.grownBy wb none := by rw [← hwb]; exact grown_alloc (grown_refl _ _) _
  have HA : Hid (∀ w', wb.grownBy w' none → HomeAt w' h c F H) := Lib.hid fun w' h' => A.grown (grown_trans hgb h')
  have hbx : wb.heap[w.heap.size]? = some (.cells (na n) 31 (0, 0)) := by rw [← hwb]; exact heap_alloc_new _ _
  have HR : Hid (∀ w', wb.grownBy w' none → w'.rangeAt w.heap.size 0 (nt n)) := Lib.hid fun w' h => tt.range_grown (tt.range_of hbx) h (by simp)
  have HM : Hid (∀ w', wb.grownBy w' none → _) := Lib.hid fun w' h' => hfits_any (HA.out w' h') ((hK.grown hgb).grown h') n
  have HG := Lib.hid hgb
  have HL : Hid (h < w.heap.size) := Lib.hid A.lt
  have HX : Hid (w.heap.size < wb.heap.size) := Lib.hid (lt_of hbx)
  rw [decide_eq_true hf] at HM
  have HK : Hid (∀ w', wb.grownBy w' none → (w'.cell? ⟨h, 0, none⟩ = some (.int .i64 c.co) ∧ w'.cell? ⟨h, 3, none⟩ = some (.map (some F.ub)) ∧ w'.cell? ⟨h, 4, none⟩ = some (.pointer (some ⟨F.pb, 0, none⟩))) ∧ (w'.cell? ⟨w.heap.size, 0, none⟩ = some (.int .u8 n.k) ∧ w'.cell? ⟨w.heap.size, 1, none⟩ = some (.int .i64 n.f) ∧ w'.cell? ⟨w.heap.size, 3, none⟩ = some (.int .i64 n.b)) ∧ (Instr.lookup 83 (.map (some F.ub)) (.int .i64 n.b) true).run Tryd.prog w' = .ok (.tuple #[.agg #[.int .u8 a0, .int .i64 a1, .int .u32 (a2 : Int), .bool a3, .int .u64 a4], .bool is]) w') := Lib.hid fun w' h' => by
    have hA := HA.out w' h'
    have hb := (blk_lt hf.1).1
    refine ⟨⟨hA.cells.1, hA.cells.2.2.2.1, hA.cells.2.2.2.2⟩, ⟨tt.cell_at (HR.out w' h') 0 _ rfl, tt.cell_at (HR.out w' h') 1 _ rfl, tt.cell_at (HR.out w' h') 3 _ rfl⟩, ?_⟩
    have := hA.look n.b.toNat
    rw [Int.toNat_of_nonneg hb, hx, hi] at this
    exact this
  have e9 : (n.k == 9) = false := by rw [hk]; rfl
  have e10 : (n.k == 10) = true := by rw [hk]; rfl
  have HQ : Hid (∀ w, _) := Lib.hid fun w => mm.has_any a2 n.f w hm
  rw [hh] at HQ
  clear hk hm hh
  have HHX := Lib.hid hx
  have HHI := Lib.hid hi
  clear A hK hgb hbx hf hx hi
  go_enter Tryd.func18, Tryd.ntmps18
  go_wp2_with (first
    | ((with_reducible refine tt.load_nt n _ w.heap.size ?_ (HR.out _ (grown_refl _ _)) ?_); (rfl))
    | (go_at_call 40; ((with_reducible refine (HM.out _ (grown_refl _ _)).mono ?_); rintro e w1 ⟨rfl, hg1⟩; have HG1 := Lib.hid hg1; clear hg1)))
  refine wp_region_held_drew (S := fun w' => wb.grownBy w' none) (by kernel_rfl) (tt.grown_drew HG1.out) (fun hHeld => ?_)
  generalize w1.drew = wd at hHeld ⊢
  have HD := Lib.hid hHeld
  refine tk (i := 0) (oi := ⟨some 14, Op.move (Operand.tmp 0), _, _, _, _⟩) (v := ?v23) rfl (Or.inl ⟨by rfl, ?hy23⟩) (by assumption) ?_
  case hy23 => ((intro w0 hSw; obtain ⟨⟨hs0, hs1, hs2⟩, ⟨hs3, hs4, hs5⟩, hs6⟩ := HK.out w0 hSw; go_simp); try (with_reducible rfl))
  try simp only [Act.put, lay1, lay2, lay3]
  refine tk (i := 1) (oi := ⟨some 15, Op.nilCheck (Operand.tmp 14), _, _, _, _⟩) (v := ?v24) rfl (Or.inl ⟨by rfl, ?hy24⟩) (by assumption) ?_
  case hy24 => ((intro w0 hSw; obtain ⟨⟨hs0, hs1, hs2⟩, ⟨hs3, hs4, hs5⟩, hs6⟩ := HK.out w0 hSw; go_simp); try (with_reducible rfl))
  try simp only [Act.put, lay1, lay2, lay3]
  refine tk (i := 2) (oi := ⟨some 16, Op.fieldAddr 86 (Operand.tmp 15) 3, _, _, _, _⟩) (v := ?v25) rfl (Or.inl ⟨by rfl, ?hy25⟩) (by assumption) ?_
  case hy25 => ((intro w0 hSw; obtain ⟨⟨hs0, hs1, hs2⟩, ⟨hs3, hs4, hs5⟩, hs6⟩ := HK.out w0 hSw; go_simp); try (with_reducible rfl))
  try simp only [Act.put, lay1, lay2, lay3]
  refine tk (i := 3) (oi := ⟨some 17, Op.load 83 (Operand.tmp 16), _, _, _, _⟩) (v := ?v26) rfl (Or.inl ⟨by rfl, ?hy26⟩) (by assumption) ?_
  case hy26 => ((intro w0 hSw; obtain ⟨⟨hs0, hs1, hs2⟩, ⟨hs3, hs4, hs5⟩, hs6⟩ := HK.out w0 hSw; go_simp); try (with_reducible rfl))
  try simp only [Act.put, lay1, lay2, lay3]
  refine tk (i := 4) (oi := ⟨some 18, Op.fieldAddr 31 (Operand.tmp 3) 3, _, _, _, _⟩) (v := ?v27) rfl (Or.inl ⟨by rfl, ?hy27⟩) (by assumption) ?_
  case hy27 => ((intro w0 hSw; obtain ⟨⟨hs0, hs1, hs2⟩, ⟨hs3, hs4, hs5⟩, hs6⟩ := HK.out w0 hSw; go_simp); try (with_reducible rfl))
  try simp only [Act.put, lay1, lay2, lay3]
  refine tk (i := 5) (oi := ⟨some 19, Op.load 3 (Operand.tmp 18), _, _, _, _⟩) (v := ?v28) rfl (Or.inl ⟨by rfl, ?hy28⟩) (by assumption) ?_
  case hy28 => ((intro w0 hSw; obtain ⟨⟨hs0, hs1, hs2⟩, ⟨hs3, hs4, hs5⟩, hs6⟩ := HK.out w0 hSw; go_simp); try (with_reducible rfl))
  try simp only [Act.put, lay1, lay2, lay3]
  refine tk (i := 6) (oi := ⟨some 20, Op.lookup 83 (Operand.tmp 17) (Operand.tmp 19) true, _, _, _, _⟩) (v := ?v29) rfl (Or.inl ⟨by rfl, ?hy29⟩) (by assumption) ?_
  case hy29 => ((intro w0 hSw; obtain ⟨⟨hs0, hs1, hs2⟩, ⟨hs3, hs4, hs5⟩, hs6⟩ := HK.out w0 hSw; go_simp); try (with_reducible rfl))
  try simp only [Act.put, lay1, lay2, lay3]
  refine tk (i := 7) (oi := ⟨some 13, Op.move (Operand.tmp 20), _, _, _, _⟩) (v := ?v30) rfl (Or.inl ⟨by rfl, ?hy30⟩) (by assumption) ?_
  case hy30 => ((intro w0 hSw; obtain ⟨⟨hs0, hs1, hs2⟩, ⟨hs3, hs4, hs5⟩, hs6⟩ := HK.out w0 hSw; go_simp); try (with_reducible rfl))
  try simp only [Act.put, lay1, lay2, lay3]
  refine tk (i := 8) (oi := ⟨some 21, Op.extract (Operand.tmp 13) 0, _, _, _, _⟩) (v := ?v31) rfl (Or.inl ⟨by rfl, ?hy31⟩) (by assumption) ?_
  case hy31 => ((intro w0 hSw; obtain ⟨⟨hs0, hs1, hs2⟩, ⟨hs3, hs4, hs5⟩, hs6⟩ := HK.out w0 hSw; go_simp); try (with_reducible rfl))
  try simp only [Act.put, lay1, lay2, lay3]
  refine tk (i := 9) (oi := ⟨some 22, Op.extract (Operand.tmp 13) 1, _, _, _, _⟩) (v := ?v32) rfl (Or.inl ⟨by rfl, ?hy32⟩) (by assumption) ?_
  case hy32 => ((intro w0 hSw; obtain ⟨⟨hs0, hs1, hs2⟩, ⟨hs3, hs4, hs5⟩, hs6⟩ := HK.out w0 hSw; go_simp); try (with_reducible rfl))
  try simp only [Act.put, lay1, lay2, lay3]
  refine rd1 (i := 10) (o := ⟨some 5, Op.alloc 80, _, _, _, _⟩) rfl (fun K hK => ?_)
  go_simp
  refine hK.out _ _ (grown_alloc hHeld _) (fun hHeld => ?_)
  clear hK K
  try simp only [Act.put, lay1, lay2, lay3]
  refine rd1 (i := 11) (o := ⟨none, Op.store 80 (Operand.tmp 5) (Operand.tmp 21), _, _, _, _⟩) rfl (fun K hK => ?_)
  go_simp
  refine hK.out _ _ (grown_alloc HD.out _) (fun hHeld => ?_)
  clear hK K
  try simp only [Act.put, lay1, lay2, lay3]
  refine tk (i := 12) (oi := ⟨some 6, Op.assign (Operand.tmp 22), _, _, _, _⟩) (v := ?v33) rfl (Or.inl ⟨by rfl, ?hy33⟩) (by assumption) ?_
  case hy33 => ((intro w0 hSw; go_simp); try (with_reducible rfl))
  try simp only [Act.put, lay1, lay2, lay3]
  refine wpAnyH_done (by kernel_rfl) ?_ _
  obtain ⟨⟨f0, f1, f2⟩, ⟨f3, f4, f5⟩, f6⟩ := HK.out wd HD.out
  have hlt : w.heap.size < wd.heap.size := Nat.lt_of_lt_of_le HX.out HD.out.size
  have hne : ¬ w.heap.size = wd.heap.size := Nat.ne_of_lt hlt
  have hht : h < wd.heap.size := Nat.lt_trans HL.out hlt
  have hhe : ¬ h = wd.heap.size := Nat.ne_of_lt hht
  go_wp2_with (go_at_call 41; ((with_reducible refine (HQ.out _).mono ?_); rintro e w5 ⟨rfl, rfl⟩))
  go_ret
  exact ⟨rfl, grown_trans HG.out (grown_alloc HD.out _)⟩
set_option maxRecDepth 1000000 in
set_option maxHeartbeats 2000000 in
theorem ready_10_f (A : HomeAt w h c F H) (hK : tt.TabK w) (n : Nt) (hf : fits c n ∧ n.t = -1) (a0 a1 : Int) (a2 : Nat) (a3 : Bool) (a4 : Int) (is : Bool) (hx : askOr H n.b.toNat = #[.int .u8 a0, .int .i64 a1, .int .u32 (a2 : Int), .bool a3, .int .u64 a4]) (hi : (jbOf H n.b.toNat).isSome = is) (hk : n.k = 10) (hm : a2 < 4294967296) (hh : mm.ha a2 n.f = false) : Calls Tryd.prog 18 #[.pointer (some ⟨h, 0, none⟩), .agg (na n)] w fun e w' => e = .returned (.int .i64 8) ∧ w.grownBy w' none := by
  obtain ⟨wb, hwb⟩ : ∃ wb, w.alloc (.cells (na n) 31) = wb := ⟨_, rfl⟩
  have hgb : w.grownBy wb none := by rw [← hwb]; exact grown_alloc (grown_refl _ _) _
  have HA : Hid (∀ w', wb.grownBy w' none → HomeAt w' h c F H) := Lib.hid fun w' h' => A.grown (grown_trans hgb h')
  have hbx : wb.heap[w.heap.size]? = some (.cells (na n) 31 (0, 0)) := by rw [← hwb]; exact heap_alloc_new _ _
  have HR : Hid (∀ w', wb.grownBy w' none → w'.rangeAt w.heap.size 0 (nt n)) := Lib.hid fun w' h => tt.range_grown (tt.range_of hbx) h (by simp)
  have HM : Hid (∀ w', wb.grownBy w' none → _) := Lib.hid fun w' h' => hfits_any (HA.out w' h') ((hK.grown hgb).grown h') n
  have HG := Lib.hid hgb
  have HL : Hid (h < w.heap.size) := Lib.hid A.lt
  have HX : Hid (w.heap.size < wb.heap.size) := Lib.hid (lt_of hbx)
  rw [decide_eq_true hf] at HM
  have HK : Hid (∀ w', wb.grownBy w' none → (w'.cell? ⟨h, 0, none⟩ = some (.int .i64 c.co) ∧ w'.cell? ⟨h, 3, none⟩ = some (.map (some F.ub)) ∧ w'.cell? ⟨h, 4, none⟩ = some (.pointer (some ⟨F.pb, 0, none⟩))) ∧ (w'.cell? ⟨w.heap.size, 0, none⟩ = some (.int .u8 n.k) ∧ w'.cell? ⟨w.heap.size, 1, none⟩ = some (.int .i64 n.f) ∧ w'.cell? ⟨w.heap.size, 3, none⟩ = some (.int .i64 n.b)) ∧ (Instr.lookup 83 (.map (some F.ub)) (.int .i64 n.b) true).run Tryd.prog w' = .ok (.tuple #[.agg #[.int .u8 a0, .int .i64 a1, .int .u32 (a2 : Int), .bool a3, .int .u64 a4], .bool is]) w') := Lib.hid fun w' h' => by
    have hA := HA.out w' h'
    have hb := (blk_lt hf.1).1
    refine ⟨⟨hA.cells.1, hA.cells.2.2.2.1, hA.cells.2.2.2.2⟩, ⟨tt.cell_at (HR.out w' h') 0 _ rfl, tt.cell_at (HR.out w' h') 1 _ rfl, tt.cell_at (HR.out w' h') 3 _ rfl⟩, ?_⟩
    have := hA.look n.b.toNat
    rw [Int.toNat_of_nonneg hb, hx, hi] at this
    exact this
  have e9 : (n.k == 9) = false := by rw [hk]; rfl
  have e10 : (n.k == 10) = true := by rw [hk]; rfl
  have HQ : Hid (∀ w, _) := Lib.hid fun w => mm.has_any a2 n.f w hm
  rw [hh] at HQ
  clear hk hm hh
  have HHX := Lib.hid hx
  have HHI := Lib.hid hi
  clear A hK hgb hbx hf hx hi
  go_enter Tryd.func18, Tryd.ntmps18
  go_wp2_with (first
    | ((with_reducible refine tt.load_nt n _ w.heap.size ?_ (HR.out _ (grown_refl _ _)) ?_); (rfl))
    | (go_at_call 40; ((with_reducible refine (HM.out _ (grown_refl _ _)).mono ?_); rintro e w1 ⟨rfl, hg1⟩; have HG1 := Lib.hid hg1; clear hg1)))
  refine wp_region_held_drew (S := fun w' => wb.grownBy w' none) (by kernel_rfl) (tt.grown_drew HG1.out) (fun hHeld => ?_)
  generalize w1.drew = wd at hHeld ⊢
  have HD := Lib.hid hHeld
  refine tk (i := 0) (oi := ⟨some 14, Op.move (Operand.tmp 0), _, _, _, _⟩) (v := ?v34) rfl (Or.inl ⟨by rfl, ?hy34⟩) (by assumption) ?_
  case hy34 => ((intro w0 hSw; obtain ⟨⟨hs0, hs1, hs2⟩, ⟨hs3, hs4, hs5⟩, hs6⟩ := HK.out w0 hSw; go_simp); try (with_reducible rfl))
  try simp only [Act.put, lay1, lay2, lay3]
  refine tk (i := 1) (oi := ⟨some 15, Op.nilCheck (Operand.tmp 14), _, _, _, _⟩) (v := ?v35) rfl (Or.inl ⟨by rfl, ?hy35⟩) (by assumption) ?_
  case hy35 => ((intro w0 hSw; obtain ⟨⟨hs0, hs1, hs2⟩, ⟨hs3, hs4, hs5⟩, hs6⟩ := HK.out w0 hSw; go_simp); try (with_reducible rfl))
  try simp only [Act.put, lay1, lay2, lay3]
  refine tk (i := 2) (oi := ⟨some 16, Op.fieldAddr 86 (Operand.tmp 15) 3, _, _, _, _⟩) (v := ?v36) rfl (Or.inl ⟨by rfl, ?hy36⟩) (by assumption) ?_
  case hy36 => ((intro w0 hSw; obtain ⟨⟨hs0, hs1, hs2⟩, ⟨hs3, hs4, hs5⟩, hs6⟩ := HK.out w0 hSw; go_simp); try (with_reducible rfl))
  try simp only [Act.put, lay1, lay2, lay3]
  refine tk (i := 3) (oi := ⟨some 17, Op.load 83 (Operand.tmp 16), _, _, _, _⟩) (v := ?v37) rfl (Or.inl ⟨by rfl, ?hy37⟩) (by assumption) ?_
  case hy37 => ((intro w0 hSw; obtain ⟨⟨hs0, hs1, hs2⟩, ⟨hs3, hs4, hs5⟩, hs6⟩ := HK.out w0 hSw; go_simp); try (with_reducible rfl))
  try simp only [Act.put, lay1, lay2, lay3]
  refine tk (i := 4) (oi := ⟨some 18, Op.fieldAddr 31 (Operand.tmp 3) 3, _, _, _, _⟩) (v := ?v38) rfl (Or.inl ⟨by rfl, ?hy38⟩) (by assumption) ?_
  case hy38 => ((intro w0 hSw; obtain ⟨⟨hs0, hs1, hs2⟩, ⟨hs3, hs4, hs5⟩, hs6⟩ := HK.out w0 hSw; go_simp); try (with_reducible rfl))
  try simp only [Act.put, lay1, lay2, lay3]
  refine tk (i := 5) (oi := ⟨some 19, Op.load 3 (Operand.tmp 18), _, _, _, _⟩) (v := ?v39) rfl (Or.inl ⟨by rfl, ?hy39⟩) (by assumption) ?_
  case hy39 => ((intro w0 hSw; obtain ⟨⟨hs0, hs1, hs2⟩, ⟨hs3, hs4, hs5⟩, hs6⟩ := HK.out w0 hSw; go_simp); try (with_reducible rfl))
  try simp only [Act.put, lay1, lay2, lay3]
  refine tk (i := 6) (oi := ⟨some 20, Op.lookup 83 (Operand.tmp 17) (Operand.tmp 19) true, _, _, _, _⟩) (v := ?v40) rfl (Or.inl ⟨by rfl, ?hy40⟩) (by assumption) ?_
  case hy40 => ((intro w0 hSw; obtain ⟨⟨hs0, hs1, hs2⟩, ⟨hs3, hs4, hs5⟩, hs6⟩ := HK.out w0 hSw; go_simp); try (with_reducible rfl))
  try simp only [Act.put, lay1, lay2, lay3]
  refine tk (i := 7) (oi := ⟨some 13, Op.move (Operand.tmp 20), _, _, _, _⟩) (v := ?v41) rfl (Or.inl ⟨by rfl, ?hy41⟩) (by assumption) ?_
  case hy41 => ((intro w0 hSw; obtain ⟨⟨hs0, hs1, hs2⟩, ⟨hs3, hs4, hs5⟩, hs6⟩ := HK.out w0 hSw; go_simp); try (with_reducible rfl))
  try simp only [Act.put, lay1, lay2, lay3]
  refine tk (i := 8) (oi := ⟨some 21, Op.extract (Operand.tmp 13) 0, _, _, _, _⟩) (v := ?v42) rfl (Or.inl ⟨by rfl, ?hy42⟩) (by assumption) ?_
  case hy42 => ((intro w0 hSw; obtain ⟨⟨hs0, hs1, hs2⟩, ⟨hs3, hs4, hs5⟩, hs6⟩ := HK.out w0 hSw; go_simp); try (with_reducible rfl))
  try simp only [Act.put, lay1, lay2, lay3]
  refine tk (i := 9) (oi := ⟨some 22, Op.extract (Operand.tmp 13) 1, _, _, _, _⟩) (v := ?v43) rfl (Or.inl ⟨by rfl, ?hy43⟩) (by assumption) ?_
  case hy43 => ((intro w0 hSw; obtain ⟨⟨hs0, hs1, hs2⟩, ⟨hs3, hs4, hs5⟩, hs6⟩ := HK.out w0 hSw; go_simp); try (with_reducible rfl))
  try simp only [Act.put, lay1, lay2, lay3]
  refine rd1 (i := 10) (o := ⟨some 5, Op.alloc 80, _, _, _, _⟩) rfl (fun K hK => ?_)
  go_simp
  refine hK.out _ _ (grown_alloc hHeld _) (fun hHeld => ?_)
  clear hK K
  try simp only [Act.put, lay1, lay2, lay3]
  refine rd1 (i := 11) (o := ⟨none, Op.store 80 (Operand.tmp 5) (Operand.tmp 21), _, _, _, _⟩) rfl (fun K hK => ?_)
  go_simp
  refine hK.out _ _ (grown_alloc HD.out _) (fun hHeld => ?_)
  clear hK K
  try simp only [Act.put, lay1, lay2, lay3]
  refine tk (i := 12) (oi := ⟨some 6, Op.assign (Operand.tmp 22), _, _, _, _⟩) (v := ?v44) rfl (Or.inl ⟨by rfl, ?hy44⟩) (by assumption) ?_
  case hy44 => ((intro w0 hSw; go_simp); try (with_reducible rfl))
  try simp only [Act.put, lay1, lay2, lay3]
  refine wpAnyH_done (by kernel_rfl) ?_ _
  obtain ⟨⟨f0, f1, f2⟩, ⟨f3, f4, f5⟩, f6⟩ := HK.out wd HD.out
  have hlt : w.heap.size < wd.heap.size := Nat.lt_of_lt_of_le HX.out HD.out.size
  have hne : ¬ w.heap.size = wd.heap.size := Nat.ne_of_lt hlt
  have hht : h < wd.heap.size := Nat.lt_trans HL.out hlt
  have hhe : ¬ h = wd.heap.size := Nat.ne_of_lt hht
  go_wp2_with (go_at_call 41; ((with_reducible refine (HQ.out _).mono ?_); rintro e w5 ⟨rfl, rfl⟩))
  go_ret
  exact ⟨rfl, grown_trans HG.out (grown_alloc HD.out _)⟩
set_option maxRecDepth 1000000 in
set_option maxHeartbeats 2000000 in
theorem ready_11_no (A : HomeAt w h c F H) (hK : tt.TabK w) (n : Nt) (hf : fits c n ∧ n.t = -1) (a0 a1 : Int) (a2 : Nat) (a3 : Bool) (a4 : Int) (is : Bool) (hx : askOr H n.b.toNat = #[.int .u8 a0, .int .i64 a1, .int .u32 (a2 : Int), .bool a3, .int .u64 a4]) (hi : (jbOf H n.b.toNat).isSome = is) (hk : n.k = 11) (hh : is = false) : Calls Tryd.prog 18 #[.pointer (some ⟨h, 0, none⟩), .agg (na n)] w fun e w' => e = .returned (.int .i64 8) ∧ w.grownBy w' none := by
  obtain ⟨wb, hwb⟩ : ∃ wb, w.alloc (.cells (na n) 31) = wb := ⟨_, rfl⟩
  have hgb : w.grownBy wb none := by rw [← hwb]; exact grown_alloc (grown_refl _ _) _
  have HA : Hid (∀ w', wb.grownBy w' none → HomeAt w' h c F H) := Lib.hid fun w' h' => A.grown (grown_trans hgb h')
  have hbx : wb.heap[w.heap.size]? = some (.cells (na n) 31 (0, 0)) := by rw [← hwb]; exact heap_alloc_new _ _
  have HR : Hid (∀ w', wb.grownBy w' none → w'.rangeAt w.heap.size 0 (nt n)) := Lib.hid fun w' h => tt.range_grown (tt.range_of hbx) h (by simp)
  have HM : Hid (∀ w', wb.grownBy w' none → _) := Lib.hid fun w' h' => hfits_any (HA.out w' h') ((hK.grown hgb).grown h') n
  have HG := Lib.hid hgb
  have HL : Hid (h < w.heap.size) := Lib.hid A.lt
  have HX : Hid (w.heap.size < wb.heap.size) := Lib.hid (lt_of hbx)
  rw [decide_eq_true hf] at HM
  have HK : Hid (∀ w', wb.grownBy w' none → (w'.cell? ⟨h, 0, none⟩ = some (.int .i64 c.co) ∧ w'.cell? ⟨h, 3, none⟩ = some (.map (some F.ub)) ∧ w'.cell? ⟨h, 4, none⟩ = some (.pointer (some ⟨F.pb, 0, none⟩))) ∧ (w'.cell? ⟨w.heap.size, 0, none⟩ = some (.int .u8 n.k) ∧ w'.cell? ⟨w.heap.size, 1, none⟩ = some (.int .i64 n.f) ∧ w'.cell? ⟨w.heap.size, 3, none⟩ = some (.int .i64 n.b)) ∧ (Instr.lookup 83 (.map (some F.ub)) (.int .i64 n.b) true).run Tryd.prog w' = .ok (.tuple #[.agg #[.int .u8 a0, .int .i64 a1, .int .u32 (a2 : Int), .bool a3, .int .u64 a4], .bool is]) w') := Lib.hid fun w' h' => by
    have hA := HA.out w' h'
    have hb := (blk_lt hf.1).1
    refine ⟨⟨hA.cells.1, hA.cells.2.2.2.1, hA.cells.2.2.2.2⟩, ⟨tt.cell_at (HR.out w' h') 0 _ rfl, tt.cell_at (HR.out w' h') 1 _ rfl, tt.cell_at (HR.out w' h') 3 _ rfl⟩, ?_⟩
    have := hA.look n.b.toNat
    rw [Int.toNat_of_nonneg hb, hx, hi] at this
    exact this
  have e9 : (n.k == 9) = false := by rw [hk]; rfl
  have e10 : (n.k == 10) = false := by rw [hk]; rfl
  have e11 : (n.k == 11) = true := by rw [hk]; rfl
  subst hh
  clear hk
  have HHX := Lib.hid hx
  have HHI := Lib.hid hi
  clear A hK hgb hbx hf hx hi
  go_enter Tryd.func18, Tryd.ntmps18
  go_wp2_with (first
    | ((with_reducible refine tt.load_nt n _ w.heap.size ?_ (HR.out _ (grown_refl _ _)) ?_); (rfl))
    | (go_at_call 40; ((with_reducible refine (HM.out _ (grown_refl _ _)).mono ?_); rintro e w1 ⟨rfl, hg1⟩; have HG1 := Lib.hid hg1; clear hg1)))
  refine wp_region_held_drew (S := fun w' => wb.grownBy w' none) (by kernel_rfl) (tt.grown_drew HG1.out) (fun hHeld => ?_)
  generalize w1.drew = wd at hHeld ⊢
  have HD := Lib.hid hHeld
  refine tk (i := 0) (oi := ⟨some 14, Op.move (Operand.tmp 0), _, _, _, _⟩) (v := ?v45) rfl (Or.inl ⟨by rfl, ?hy45⟩) (by assumption) ?_
  case hy45 => ((intro w0 hSw; obtain ⟨⟨hs0, hs1, hs2⟩, ⟨hs3, hs4, hs5⟩, hs6⟩ := HK.out w0 hSw; go_simp); try (with_reducible rfl))
  try simp only [Act.put, lay1, lay2, lay3]
  refine tk (i := 1) (oi := ⟨some 15, Op.nilCheck (Operand.tmp 14), _, _, _, _⟩) (v := ?v46) rfl (Or.inl ⟨by rfl, ?hy46⟩) (by assumption) ?_
  case hy46 => ((intro w0 hSw; obtain ⟨⟨hs0, hs1, hs2⟩, ⟨hs3, hs4, hs5⟩, hs6⟩ := HK.out w0 hSw; go_simp); try (with_reducible rfl))
  try simp only [Act.put, lay1, lay2, lay3]
  refine tk (i := 2) (oi := ⟨some 16, Op.fieldAddr 86 (Operand.tmp 15) 3, _, _, _, _⟩) (v := ?v47) rfl (Or.inl ⟨by rfl, ?hy47⟩) (by assumption) ?_
  case hy47 => ((intro w0 hSw; obtain ⟨⟨hs0, hs1, hs2⟩, ⟨hs3, hs4, hs5⟩, hs6⟩ := HK.out w0 hSw; go_simp); try (with_reducible rfl))
  try simp only [Act.put, lay1, lay2, lay3]
  refine tk (i := 3) (oi := ⟨some 17, Op.load 83 (Operand.tmp 16), _, _, _, _⟩) (v := ?v48) rfl (Or.inl ⟨by rfl, ?hy48⟩) (by assumption) ?_
  case hy48 => ((intro w0 hSw; obtain ⟨⟨hs0, hs1, hs2⟩, ⟨hs3, hs4, hs5⟩, hs6⟩ := HK.out w0 hSw; go_simp); try (with_reducible rfl))
  try simp only [Act.put, lay1, lay2, lay3]
  refine tk (i := 4) (oi := ⟨some 18, Op.fieldAddr 31 (Operand.tmp 3) 3, _, _, _, _⟩) (v := ?v49) rfl (Or.inl ⟨by rfl, ?hy49⟩) (by assumption) ?_
  case hy49 => ((intro w0 hSw; obtain ⟨⟨hs0, hs1, hs2⟩, ⟨hs3, hs4, hs5⟩, hs6⟩ := HK.out w0 hSw; go_simp); try (with_reducible rfl))
  try simp only [Act.put, lay1, lay2, lay3]
  refine tk (i := 5) (oi := ⟨some 19, Op.load 3 (Operand.tmp 18), _, _, _, _⟩) (v := ?v50) rfl (Or.inl ⟨by rfl, ?hy50⟩) (by assumption) ?_
  case hy50 => ((intro w0 hSw; obtain ⟨⟨hs0, hs1, hs2⟩, ⟨hs3, hs4, hs5⟩, hs6⟩ := HK.out w0 hSw; go_simp); try (with_reducible rfl))
  try simp only [Act.put, lay1, lay2, lay3]
  refine tk (i := 6) (oi := ⟨some 20, Op.lookup 83 (Operand.tmp 17) (Operand.tmp 19) true, _, _, _, _⟩) (v := ?v51) rfl (Or.inl ⟨by rfl, ?hy51⟩) (by assumption) ?_
  case hy51 => ((intro w0 hSw; obtain ⟨⟨hs0, hs1, hs2⟩, ⟨hs3, hs4, hs5⟩, hs6⟩ := HK.out w0 hSw; go_simp); try (with_reducible rfl))
  try simp only [Act.put, lay1, lay2, lay3]
  refine tk (i := 7) (oi := ⟨some 13, Op.move (Operand.tmp 20), _, _, _, _⟩) (v := ?v52) rfl (Or.inl ⟨by rfl, ?hy52⟩) (by assumption) ?_
  case hy52 => ((intro w0 hSw; obtain ⟨⟨hs0, hs1, hs2⟩, ⟨hs3, hs4, hs5⟩, hs6⟩ := HK.out w0 hSw; go_simp); try (with_reducible rfl))
  try simp only [Act.put, lay1, lay2, lay3]
  refine tk (i := 8) (oi := ⟨some 21, Op.extract (Operand.tmp 13) 0, _, _, _, _⟩) (v := ?v53) rfl (Or.inl ⟨by rfl, ?hy53⟩) (by assumption) ?_
  case hy53 => ((intro w0 hSw; obtain ⟨⟨hs0, hs1, hs2⟩, ⟨hs3, hs4, hs5⟩, hs6⟩ := HK.out w0 hSw; go_simp); try (with_reducible rfl))
  try simp only [Act.put, lay1, lay2, lay3]
  refine tk (i := 9) (oi := ⟨some 22, Op.extract (Operand.tmp 13) 1, _, _, _, _⟩) (v := ?v54) rfl (Or.inl ⟨by rfl, ?hy54⟩) (by assumption) ?_
  case hy54 => ((intro w0 hSw; obtain ⟨⟨hs0, hs1, hs2⟩, ⟨hs3, hs4, hs5⟩, hs6⟩ := HK.out w0 hSw; go_simp); try (with_reducible rfl))
  try simp only [Act.put, lay1, lay2, lay3]
  refine rd1 (i := 10) (o := ⟨some 5, Op.alloc 80, _, _, _, _⟩) rfl (fun K hK => ?_)
  go_simp
  refine hK.out _ _ (grown_alloc hHeld _) (fun hHeld => ?_)
  clear hK K
  try simp only [Act.put, lay1, lay2, lay3]
  refine rd1 (i := 11) (o := ⟨none, Op.store 80 (Operand.tmp 5) (Operand.tmp 21), _, _, _, _⟩) rfl (fun K hK => ?_)
  go_simp
  refine hK.out _ _ (grown_alloc HD.out _) (fun hHeld => ?_)
  clear hK K
  try simp only [Act.put, lay1, lay2, lay3]
  refine tk (i := 12) (oi := ⟨some 6, Op.assign (Operand.tmp 22), _, _, _, _⟩) (v := ?v55) rfl (Or.inl ⟨by rfl, ?hy55⟩) (by assumption) ?_
  case hy55 => ((intro w0 hSw; go_simp); try (with_reducible rfl))
  try simp only [Act.put, lay1, lay2, lay3]
  refine wpAnyH_done (by kernel_rfl) ?_ _
  obtain ⟨⟨f0, f1, f2⟩, ⟨f3, f4, f5⟩, f6⟩ := HK.out wd HD.out
  have hlt : w.heap.size < wd.heap.size := Nat.lt_of_lt_of_le HX.out HD.out.size
  have hne : ¬ w.heap.size = wd.heap.size := Nat.ne_of_lt hlt
  have hht : h < wd.heap.size := Nat.lt_trans HL.out hlt
  have hhe : ¬ h = wd.heap.size := Nat.ne_of_lt hht
  go_wp2_with (fail)
  go_ret
  exact ⟨rfl, grown_trans HG.out (grown_alloc HD.out _)⟩
set_option maxRecDepth 1000000 in
set_option maxHeartbeats 2000000 in
theorem ready_11_left (A : HomeAt w h c F H) (hK : tt.TabK w) (n : Nt) (hf : fits c n ∧ n.t = -1) (a0 a1 : Int) (a2 : Nat) (a3 : Bool) (a4 : Int) (is : Bool) (hx : askOr H n.b.toNat = #[.int .u8 a0, .int .i64 a1, .int .u32 (a2 : Int), .bool a3, .int .u64 a4]) (hi : (jbOf H n.b.toNat).isSome = is) (hk : n.k = 11) (hh : is = true) (h2 : ((a2 : Int) != 0) = true) : Calls Tryd.prog 18 #[.pointer (some ⟨h, 0, none⟩), .agg (na n)] w fun e w' => e = .returned (.int .i64 8) ∧ w.grownBy w' none := by
  obtain ⟨wb, hwb⟩ : ∃ wb, w.alloc (.cells (na n) 31) = wb := ⟨_, rfl⟩
  have hgb : w.grownBy wb none := by rw [← hwb]; exact grown_alloc (grown_refl _ _) _
  have HA : Hid (∀ w', wb.grownBy w' none → HomeAt w' h c F H) := Lib.hid fun w' h' => A.grown (grown_trans hgb h')
  have hbx : wb.heap[w.heap.size]? = some (.cells (na n) 31 (0, 0)) := by rw [← hwb]; exact heap_alloc_new _ _
  have HR : Hid (∀ w', wb.grownBy w' none → w'.rangeAt w.heap.size 0 (nt n)) := Lib.hid fun w' h => tt.range_grown (tt.range_of hbx) h (by simp)
  have HM : Hid (∀ w', wb.grownBy w' none → _) := Lib.hid fun w' h' => hfits_any (HA.out w' h') ((hK.grown hgb).grown h') n
  have HG := Lib.hid hgb
  have HL : Hid (h < w.heap.size) := Lib.hid A.lt
  have HX : Hid (w.heap.size < wb.heap.size) := Lib.hid (lt_of hbx)
  rw [decide_eq_true hf] at HM
  have HK : Hid (∀ w', wb.grownBy w' none → (w'.cell? ⟨h, 0, none⟩ = some (.int .i64 c.co) ∧ w'.cell? ⟨h, 3, none⟩ = some (.map (some F.ub)) ∧ w'.cell? ⟨h, 4, none⟩ = some (.pointer (some ⟨F.pb, 0, none⟩))) ∧ (w'.cell? ⟨w.heap.size, 0, none⟩ = some (.int .u8 n.k) ∧ w'.cell? ⟨w.heap.size, 1, none⟩ = some (.int .i64 n.f) ∧ w'.cell? ⟨w.heap.size, 3, none⟩ = some (.int .i64 n.b)) ∧ (Instr.lookup 83 (.map (some F.ub)) (.int .i64 n.b) true).run Tryd.prog w' = .ok (.tuple #[.agg #[.int .u8 a0, .int .i64 a1, .int .u32 (a2 : Int), .bool a3, .int .u64 a4], .bool is]) w') := Lib.hid fun w' h' => by
    have hA := HA.out w' h'
    have hb := (blk_lt hf.1).1
    refine ⟨⟨hA.cells.1, hA.cells.2.2.2.1, hA.cells.2.2.2.2⟩, ⟨tt.cell_at (HR.out w' h') 0 _ rfl, tt.cell_at (HR.out w' h') 1 _ rfl, tt.cell_at (HR.out w' h') 3 _ rfl⟩, ?_⟩
    have := hA.look n.b.toNat
    rw [Int.toNat_of_nonneg hb, hx, hi] at this
    exact this
  have e9 : (n.k == 9) = false := by rw [hk]; rfl
  have e10 : (n.k == 10) = false := by rw [hk]; rfl
  have e11 : (n.k == 11) = true := by rw [hk]; rfl
  subst hh
  clear hk
  have HHX := Lib.hid hx
  have HHI := Lib.hid hi
  clear A hK hgb hbx hf hx hi
  go_enter Tryd.func18, Tryd.ntmps18
  go_wp2_with (first
    | ((with_reducible refine tt.load_nt n _ w.heap.size ?_ (HR.out _ (grown_refl _ _)) ?_); (rfl))
    | (go_at_call 40; ((with_reducible refine (HM.out _ (grown_refl _ _)).mono ?_); rintro e w1 ⟨rfl, hg1⟩; have HG1 := Lib.hid hg1; clear hg1)))
  refine wp_region_held_drew (S := fun w' => wb.grownBy w' none) (by kernel_rfl) (tt.grown_drew HG1.out) (fun hHeld => ?_)
  generalize w1.drew = wd at hHeld ⊢
  have HD := Lib.hid hHeld
  refine tk (i := 0) (oi := ⟨some 14, Op.move (Operand.tmp 0), _, _, _, _⟩) (v := ?v56) rfl (Or.inl ⟨by rfl, ?hy56⟩) (by assumption) ?_
  case hy56 => ((intro w0 hSw; obtain ⟨⟨hs0, hs1, hs2⟩, ⟨hs3, hs4, hs5⟩, hs6⟩ := HK.out w0 hSw; go_simp); try (with_reducible rfl))
  try simp only [Act.put, lay1, lay2, lay3]
  refine tk (i := 1) (oi := ⟨some 15, Op.nilCheck (Operand.tmp 14), _, _, _, _⟩) (v := ?v57) rfl (Or.inl ⟨by rfl, ?hy57⟩) (by assumption) ?_
  case hy57 => ((intro w0 hSw; obtain ⟨⟨hs0, hs1, hs2⟩, ⟨hs3, hs4, hs5⟩, hs6⟩ := HK.out w0 hSw; go_simp); try (with_reducible rfl))
  try simp only [Act.put, lay1, lay2, lay3]
  refine tk (i := 2) (oi := ⟨some 16, Op.fieldAddr 86 (Operand.tmp 15) 3, _, _, _, _⟩) (v := ?v58) rfl (Or.inl ⟨by rfl, ?hy58⟩) (by assumption) ?_
  case hy58 => ((intro w0 hSw; obtain ⟨⟨hs0, hs1, hs2⟩, ⟨hs3, hs4, hs5⟩, hs6⟩ := HK.out w0 hSw; go_simp); try (with_reducible rfl))
  try simp only [Act.put, lay1, lay2, lay3]
  refine tk (i := 3) (oi := ⟨some 17, Op.load 83 (Operand.tmp 16), _, _, _, _⟩) (v := ?v59) rfl (Or.inl ⟨by rfl, ?hy59⟩) (by assumption) ?_
  case hy59 => ((intro w0 hSw; obtain ⟨⟨hs0, hs1, hs2⟩, ⟨hs3, hs4, hs5⟩, hs6⟩ := HK.out w0 hSw; go_simp); try (with_reducible rfl))
  try simp only [Act.put, lay1, lay2, lay3]
  refine tk (i := 4) (oi := ⟨some 18, Op.fieldAddr 31 (Operand.tmp 3) 3, _, _, _, _⟩) (v := ?v60) rfl (Or.inl ⟨by rfl, ?hy60⟩) (by assumption) ?_
  case hy60 => ((intro w0 hSw; obtain ⟨⟨hs0, hs1, hs2⟩, ⟨hs3, hs4, hs5⟩, hs6⟩ := HK.out w0 hSw; go_simp); try (with_reducible rfl))
  try simp only [Act.put, lay1, lay2, lay3]
  refine tk (i := 5) (oi := ⟨some 19, Op.load 3 (Operand.tmp 18), _, _, _, _⟩) (v := ?v61) rfl (Or.inl ⟨by rfl, ?hy61⟩) (by assumption) ?_
  case hy61 => ((intro w0 hSw; obtain ⟨⟨hs0, hs1, hs2⟩, ⟨hs3, hs4, hs5⟩, hs6⟩ := HK.out w0 hSw; go_simp); try (with_reducible rfl))
  try simp only [Act.put, lay1, lay2, lay3]
  refine tk (i := 6) (oi := ⟨some 20, Op.lookup 83 (Operand.tmp 17) (Operand.tmp 19) true, _, _, _, _⟩) (v := ?v62) rfl (Or.inl ⟨by rfl, ?hy62⟩) (by assumption) ?_
  case hy62 => ((intro w0 hSw; obtain ⟨⟨hs0, hs1, hs2⟩, ⟨hs3, hs4, hs5⟩, hs6⟩ := HK.out w0 hSw; go_simp); try (with_reducible rfl))
  try simp only [Act.put, lay1, lay2, lay3]
  refine tk (i := 7) (oi := ⟨some 13, Op.move (Operand.tmp 20), _, _, _, _⟩) (v := ?v63) rfl (Or.inl ⟨by rfl, ?hy63⟩) (by assumption) ?_
  case hy63 => ((intro w0 hSw; obtain ⟨⟨hs0, hs1, hs2⟩, ⟨hs3, hs4, hs5⟩, hs6⟩ := HK.out w0 hSw; go_simp); try (with_reducible rfl))
  try simp only [Act.put, lay1, lay2, lay3]
  refine tk (i := 8) (oi := ⟨some 21, Op.extract (Operand.tmp 13) 0, _, _, _, _⟩) (v := ?v64) rfl (Or.inl ⟨by rfl, ?hy64⟩) (by assumption) ?_
  case hy64 => ((intro w0 hSw; obtain ⟨⟨hs0, hs1, hs2⟩, ⟨hs3, hs4, hs5⟩, hs6⟩ := HK.out w0 hSw; go_simp); try (with_reducible rfl))
  try simp only [Act.put, lay1, lay2, lay3]
  refine tk (i := 9) (oi := ⟨some 22, Op.extract (Operand.tmp 13) 1, _, _, _, _⟩) (v := ?v65) rfl (Or.inl ⟨by rfl, ?hy65⟩) (by assumption) ?_
  case hy65 => ((intro w0 hSw; obtain ⟨⟨hs0, hs1, hs2⟩, ⟨hs3, hs4, hs5⟩, hs6⟩ := HK.out w0 hSw; go_simp); try (with_reducible rfl))
  try simp only [Act.put, lay1, lay2, lay3]
  refine rd1 (i := 10) (o := ⟨some 5, Op.alloc 80, _, _, _, _⟩) rfl (fun K hK => ?_)
  go_simp
  refine hK.out _ _ (grown_alloc hHeld _) (fun hHeld => ?_)
  clear hK K
  try simp only [Act.put, lay1, lay2, lay3]
  refine rd1 (i := 11) (o := ⟨none, Op.store 80 (Operand.tmp 5) (Operand.tmp 21), _, _, _, _⟩) rfl (fun K hK => ?_)
  go_simp
  refine hK.out _ _ (grown_alloc HD.out _) (fun hHeld => ?_)
  clear hK K
  try simp only [Act.put, lay1, lay2, lay3]
  refine tk (i := 12) (oi := ⟨some 6, Op.assign (Operand.tmp 22), _, _, _, _⟩) (v := ?v66) rfl (Or.inl ⟨by rfl, ?hy66⟩) (by assumption) ?_
  case hy66 => ((intro w0 hSw; go_simp); try (with_reducible rfl))
  try simp only [Act.put, lay1, lay2, lay3]
  refine wpAnyH_done (by kernel_rfl) ?_ _
  obtain ⟨⟨f0, f1, f2⟩, ⟨f3, f4, f5⟩, f6⟩ := HK.out wd HD.out
  have hlt : w.heap.size < wd.heap.size := Nat.lt_of_lt_of_le HX.out HD.out.size
  have hne : ¬ w.heap.size = wd.heap.size := Nat.ne_of_lt hlt
  have hht : h < wd.heap.size := Nat.lt_trans HL.out hlt
  have hhe : ¬ h = wd.heap.size := Nat.ne_of_lt hht
  go_wp2_with (fail)
  go_ret
  exact ⟨rfl, grown_trans HG.out (grown_alloc HD.out _)⟩
set_option maxRecDepth 1000000 in
set_option maxHeartbeats 2000000 in
theorem ready_11_not (A : HomeAt w h c F H) (hK : tt.TabK w) (n : Nt) (hf : fits c n ∧ n.t = -1) (a0 a1 : Int) (a2 : Nat) (a3 : Bool) (a4 : Int) (is : Bool) (hx : askOr H n.b.toNat = #[.int .u8 a0, .int .i64 a1, .int .u32 (a2 : Int), .bool a3, .int .u64 a4]) (hi : (jbOf H n.b.toNat).isSome = is) (hk : n.k = 11) (hh : is = true) (h2 : ((a2 : Int) != 0) = false) (h3 : (a1 != n.f) = true) : Calls Tryd.prog 18 #[.pointer (some ⟨h, 0, none⟩), .agg (na n)] w fun e w' => e = .returned (.int .i64 8) ∧ w.grownBy w' none := by
  obtain ⟨wb, hwb⟩ : ∃ wb, w.alloc (.cells (na n) 31) = wb := ⟨_, rfl⟩
  have hgb : w.grownBy wb none := by rw [← hwb]; exact grown_alloc (grown_refl _ _) _
  have HA : Hid (∀ w', wb.grownBy w' none → HomeAt w' h c F H) := Lib.hid fun w' h' => A.grown (grown_trans hgb h')
  have hbx : wb.heap[w.heap.size]? = some (.cells (na n) 31 (0, 0)) := by rw [← hwb]; exact heap_alloc_new _ _
  have HR : Hid (∀ w', wb.grownBy w' none → w'.rangeAt w.heap.size 0 (nt n)) := Lib.hid fun w' h => tt.range_grown (tt.range_of hbx) h (by simp)
  have HM : Hid (∀ w', wb.grownBy w' none → _) := Lib.hid fun w' h' => hfits_any (HA.out w' h') ((hK.grown hgb).grown h') n
  have HG := Lib.hid hgb
  have HL : Hid (h < w.heap.size) := Lib.hid A.lt
  have HX : Hid (w.heap.size < wb.heap.size) := Lib.hid (lt_of hbx)
  rw [decide_eq_true hf] at HM
  have HK : Hid (∀ w', wb.grownBy w' none → (w'.cell? ⟨h, 0, none⟩ = some (.int .i64 c.co) ∧ w'.cell? ⟨h, 3, none⟩ = some (.map (some F.ub)) ∧ w'.cell? ⟨h, 4, none⟩ = some (.pointer (some ⟨F.pb, 0, none⟩))) ∧ (w'.cell? ⟨w.heap.size, 0, none⟩ = some (.int .u8 n.k) ∧ w'.cell? ⟨w.heap.size, 1, none⟩ = some (.int .i64 n.f) ∧ w'.cell? ⟨w.heap.size, 3, none⟩ = some (.int .i64 n.b)) ∧ (Instr.lookup 83 (.map (some F.ub)) (.int .i64 n.b) true).run Tryd.prog w' = .ok (.tuple #[.agg #[.int .u8 a0, .int .i64 a1, .int .u32 (a2 : Int), .bool a3, .int .u64 a4], .bool is]) w') := Lib.hid fun w' h' => by
    have hA := HA.out w' h'
    have hb := (blk_lt hf.1).1
    refine ⟨⟨hA.cells.1, hA.cells.2.2.2.1, hA.cells.2.2.2.2⟩, ⟨tt.cell_at (HR.out w' h') 0 _ rfl, tt.cell_at (HR.out w' h') 1 _ rfl, tt.cell_at (HR.out w' h') 3 _ rfl⟩, ?_⟩
    have := hA.look n.b.toNat
    rw [Int.toNat_of_nonneg hb, hx, hi] at this
    exact this
  have e9 : (n.k == 9) = false := by rw [hk]; rfl
  have e10 : (n.k == 10) = false := by rw [hk]; rfl
  have e11 : (n.k == 11) = true := by rw [hk]; rfl
  subst hh
  clear hk
  have HHX := Lib.hid hx
  have HHI := Lib.hid hi
  clear A hK hgb hbx hf hx hi
  go_enter Tryd.func18, Tryd.ntmps18
  go_wp2_with (first
    | ((with_reducible refine tt.load_nt n _ w.heap.size ?_ (HR.out _ (grown_refl _ _)) ?_); (rfl))
    | (go_at_call 40; ((with_reducible refine (HM.out _ (grown_refl _ _)).mono ?_); rintro e w1 ⟨rfl, hg1⟩; have HG1 := Lib.hid hg1; clear hg1)))
  refine wp_region_held_drew (S := fun w' => wb.grownBy w' none) (by kernel_rfl) (tt.grown_drew HG1.out) (fun hHeld => ?_)
  generalize w1.drew = wd at hHeld ⊢
  have HD := Lib.hid hHeld
  refine tk (i := 0) (oi := ⟨some 14, Op.move (Operand.tmp 0), _, _, _, _⟩) (v := ?v67) rfl (Or.inl ⟨by rfl, ?hy67⟩) (by assumption) ?_
  case hy67 => ((intro w0 hSw; obtain ⟨⟨hs0, hs1, hs2⟩, ⟨hs3, hs4, hs5⟩, hs6⟩ := HK.out w0 hSw; go_simp); try (with_reducible rfl))
  try simp only [Act.put, lay1, lay2, lay3]
  refine tk (i := 1) (oi := ⟨some 15, Op.nilCheck (Operand.tmp 14), _, _, _, _⟩) (v := ?v68) rfl (Or.inl ⟨by rfl, ?hy68⟩) (by assumption) ?_
  case hy68 => ((intro w0 hSw; obtain ⟨⟨hs0, hs1, hs2⟩, ⟨hs3, hs4, hs5⟩, hs6⟩ := HK.out w0 hSw; go_simp); try (with_reducible rfl))
  try simp only [Act.put, lay1, lay2, lay3]
  refine tk (i := 2) (oi := ⟨some 16, Op.fieldAddr 86 (Operand.tmp 15) 3, _, _, _, _⟩) (v := ?v69) rfl (Or.inl ⟨by rfl, ?hy69⟩) (by assumption) ?_
  case hy69 => ((intro w0 hSw; obtain ⟨⟨hs0, hs1, hs2⟩, ⟨hs3, hs4, hs5⟩, hs6⟩ := HK.out w0 hSw; go_simp); try (with_reducible rfl))
  try simp only [Act.put, lay1, lay2, lay3]
  refine tk (i := 3) (oi := ⟨some 17, Op.load 83 (Operand.tmp 16), _, _, _, _⟩) (v := ?v70) rfl (Or.inl ⟨by rfl, ?hy70⟩) (by assumption) ?_
  case hy70 => ((intro w0 hSw; obtain ⟨⟨hs0, hs1, hs2⟩, ⟨hs3, hs4, hs5⟩, hs6⟩ := HK.out w0 hSw; go_simp); try (with_reducible rfl))
  try simp only [Act.put, lay1, lay2, lay3]
  refine tk (i := 4) (oi := ⟨some 18, Op.fieldAddr 31 (Operand.tmp 3) 3, _, _, _, _⟩) (v := ?v71) rfl (Or.inl ⟨by rfl, ?hy71⟩) (by assumption) ?_
  case hy71 => ((intro w0 hSw; obtain ⟨⟨hs0, hs1, hs2⟩, ⟨hs3, hs4, hs5⟩, hs6⟩ := HK.out w0 hSw; go_simp); try (with_reducible rfl))
  try simp only [Act.put, lay1, lay2, lay3]
  refine tk (i := 5) (oi := ⟨some 19, Op.load 3 (Operand.tmp 18), _, _, _, _⟩) (v := ?v72) rfl (Or.inl ⟨by rfl, ?hy72⟩) (by assumption) ?_
  case hy72 => ((intro w0 hSw; obtain ⟨⟨hs0, hs1, hs2⟩, ⟨hs3, hs4, hs5⟩, hs6⟩ := HK.out w0 hSw; go_simp); try (with_reducible rfl))
  try simp only [Act.put, lay1, lay2, lay3]
  refine tk (i := 6) (oi := ⟨some 20, Op.lookup 83 (Operand.tmp 17) (Operand.tmp 19) true, _, _, _, _⟩) (v := ?v73) rfl (Or.inl ⟨by rfl, ?hy73⟩) (by assumption) ?_
  case hy73 => ((intro w0 hSw; obtain ⟨⟨hs0, hs1, hs2⟩, ⟨hs3, hs4, hs5⟩, hs6⟩ := HK.out w0 hSw; go_simp); try (with_reducible rfl))
  try simp only [Act.put, lay1, lay2, lay3]
  refine tk (i := 7) (oi := ⟨some 13, Op.move (Operand.tmp 20), _, _, _, _⟩) (v := ?v74) rfl (Or.inl ⟨by rfl, ?hy74⟩) (by assumption) ?_
  case hy74 => ((intro w0 hSw; obtain ⟨⟨hs0, hs1, hs2⟩, ⟨hs3, hs4, hs5⟩, hs6⟩ := HK.out w0 hSw; go_simp); try (with_reducible rfl))
  try simp only [Act.put, lay1, lay2, lay3]
  refine tk (i := 8) (oi := ⟨some 21, Op.extract (Operand.tmp 13) 0, _, _, _, _⟩) (v := ?v75) rfl (Or.inl ⟨by rfl, ?hy75⟩) (by assumption) ?_
  case hy75 => ((intro w0 hSw; obtain ⟨⟨hs0, hs1, hs2⟩, ⟨hs3, hs4, hs5⟩, hs6⟩ := HK.out w0 hSw; go_simp); try (with_reducible rfl))
  try simp only [Act.put, lay1, lay2, lay3]
  refine tk (i := 9) (oi := ⟨some 22, Op.extract (Operand.tmp 13) 1, _, _, _, _⟩) (v := ?v76) rfl (Or.inl ⟨by rfl, ?hy76⟩) (by assumption) ?_
  case hy76 => ((intro w0 hSw; obtain ⟨⟨hs0, hs1, hs2⟩, ⟨hs3, hs4, hs5⟩, hs6⟩ := HK.out w0 hSw; go_simp); try (with_reducible rfl))
  try simp only [Act.put, lay1, lay2, lay3]
  refine rd1 (i := 10) (o := ⟨some 5, Op.alloc 80, _, _, _, _⟩) rfl (fun K hK => ?_)
  go_simp
  refine hK.out _ _ (grown_alloc hHeld _) (fun hHeld => ?_)
  clear hK K
  try simp only [Act.put, lay1, lay2, lay3]
  refine rd1 (i := 11) (o := ⟨none, Op.store 80 (Operand.tmp 5) (Operand.tmp 21), _, _, _, _⟩) rfl (fun K hK => ?_)
  go_simp
  refine hK.out _ _ (grown_alloc HD.out _) (fun hHeld => ?_)
  clear hK K
  try simp only [Act.put, lay1, lay2, lay3]
  refine tk (i := 12) (oi := ⟨some 6, Op.assign (Operand.tmp 22), _, _, _, _⟩) (v := ?v77) rfl (Or.inl ⟨by rfl, ?hy77⟩) (by assumption) ?_
  case hy77 => ((intro w0 hSw; go_simp); try (with_reducible rfl))
  try simp only [Act.put, lay1, lay2, lay3]
  refine wpAnyH_done (by kernel_rfl) ?_ _
  obtain ⟨⟨f0, f1, f2⟩, ⟨f3, f4, f5⟩, f6⟩ := HK.out wd HD.out
  have hlt : w.heap.size < wd.heap.size := Nat.lt_of_lt_of_le HX.out HD.out.size
  have hne : ¬ w.heap.size = wd.heap.size := Nat.ne_of_lt hlt
  have hht : h < wd.heap.size := Nat.lt_trans HL.out hlt
  have hhe : ¬ h = wd.heap.size := Nat.ne_of_lt hht
  go_wp2_with (fail)
  go_ret
  exact ⟨rfl, grown_trans HG.out (grown_alloc HD.out _)⟩
set_option maxRecDepth 1000000 in
set_option maxHeartbeats 2000000 in
theorem ready_11_yes (A : HomeAt w h c F H) (hK : tt.TabK w) (n : Nt) (hf : fits c n ∧ n.t = -1) (a0 a1 : Int) (a2 : Nat) (a3 : Bool) (a4 : Int) (is : Bool) (hx : askOr H n.b.toNat = #[.int .u8 a0, .int .i64 a1, .int .u32 (a2 : Int), .bool a3, .int .u64 a4]) (hi : (jbOf H n.b.toNat).isSome = is) (hk : n.k = 11) (hh : is = true) (h2 : ((a2 : Int) != 0) = false) (h3 : (a1 != n.f) = false) : Calls Tryd.prog 18 #[.pointer (some ⟨h, 0, none⟩), .agg (na n)] w fun e w' => e = .returned (.int .i64 0) ∧ w.grownBy w' none := by
  obtain ⟨wb, hwb⟩ : ∃ wb, w.alloc (.cells (na n) 31) = wb := ⟨_, rfl⟩
  have hgb : w.grownBy wb none := by rw [← hwb]; exact grown_alloc (grown_refl _ _) _
  have HA : Hid (∀ w', wb.grownBy w' none → HomeAt w' h c F H) := Lib.hid fun w' h' => A.grown (grown_trans hgb h')
  have hbx : wb.heap[w.heap.size]? = some (.cells (na n) 31 (0, 0)) := by rw [← hwb]; exact heap_alloc_new _ _
  have HR : Hid (∀ w', wb.grownBy w' none → w'.rangeAt w.heap.size 0 (nt n)) := Lib.hid fun w' h => tt.range_grown (tt.range_of hbx) h (by simp)
  have HM : Hid (∀ w', wb.grownBy w' none → _) := Lib.hid fun w' h' => hfits_any (HA.out w' h') ((hK.grown hgb).grown h') n
  have HG := Lib.hid hgb
  have HL : Hid (h < w.heap.size) := Lib.hid A.lt
  have HX : Hid (w.heap.size < wb.heap.size) := Lib.hid (lt_of hbx)
  rw [decide_eq_true hf] at HM
  have HK : Hid (∀ w', wb.grownBy w' none → (w'.cell? ⟨h, 0, none⟩ = some (.int .i64 c.co) ∧ w'.cell? ⟨h, 3, none⟩ = some (.map (some F.ub)) ∧ w'.cell? ⟨h, 4, none⟩ = some (.pointer (some ⟨F.pb, 0, none⟩))) ∧ (w'.cell? ⟨w.heap.size, 0, none⟩ = some (.int .u8 n.k) ∧ w'.cell? ⟨w.heap.size, 1, none⟩ = some (.int .i64 n.f) ∧ w'.cell? ⟨w.heap.size, 3, none⟩ = some (.int .i64 n.b)) ∧ (Instr.lookup 83 (.map (some F.ub)) (.int .i64 n.b) true).run Tryd.prog w' = .ok (.tuple #[.agg #[.int .u8 a0, .int .i64 a1, .int .u32 (a2 : Int), .bool a3, .int .u64 a4], .bool is]) w') := Lib.hid fun w' h' => by
    have hA := HA.out w' h'
    have hb := (blk_lt hf.1).1
    refine ⟨⟨hA.cells.1, hA.cells.2.2.2.1, hA.cells.2.2.2.2⟩, ⟨tt.cell_at (HR.out w' h') 0 _ rfl, tt.cell_at (HR.out w' h') 1 _ rfl, tt.cell_at (HR.out w' h') 3 _ rfl⟩, ?_⟩
    have := hA.look n.b.toNat
    rw [Int.toNat_of_nonneg hb, hx, hi] at this
    exact this
  have e9 : (n.k == 9) = false := by rw [hk]; rfl
  have e10 : (n.k == 10) = false := by rw [hk]; rfl
  have e11 : (n.k == 11) = true := by rw [hk]; rfl
  subst hh
  clear hk
  have HHX := Lib.hid hx
  have HHI := Lib.hid hi
  clear A hK hgb hbx hf hx hi
  go_enter Tryd.func18, Tryd.ntmps18
  go_wp2_with (first
    | ((with_reducible refine tt.load_nt n _ w.heap.size ?_ (HR.out _ (grown_refl _ _)) ?_); (rfl))
    | (go_at_call 40; ((with_reducible refine (HM.out _ (grown_refl _ _)).mono ?_); rintro e w1 ⟨rfl, hg1⟩; have HG1 := Lib.hid hg1; clear hg1)))
  refine wp_region_held_drew (S := fun w' => wb.grownBy w' none) (by kernel_rfl) (tt.grown_drew HG1.out) (fun hHeld => ?_)
  generalize w1.drew = wd at hHeld ⊢
  have HD := Lib.hid hHeld
  refine tk (i := 0) (oi := ⟨some 14, Op.move (Operand.tmp 0), _, _, _, _⟩) (v := ?v78) rfl (Or.inl ⟨by rfl, ?hy78⟩) (by assumption) ?_
  case hy78 => ((intro w0 hSw; obtain ⟨⟨hs0, hs1, hs2⟩, ⟨hs3, hs4, hs5⟩, hs6⟩ := HK.out w0 hSw; go_simp); try (with_reducible rfl))
  try simp only [Act.put, lay1, lay2, lay3]
  refine tk (i := 1) (oi := ⟨some 15, Op.nilCheck (Operand.tmp 14), _, _, _, _⟩) (v := ?v79) rfl (Or.inl ⟨by rfl, ?hy79⟩) (by assumption) ?_
  case hy79 => ((intro w0 hSw; obtain ⟨⟨hs0, hs1, hs2⟩, ⟨hs3, hs4, hs5⟩, hs6⟩ := HK.out w0 hSw; go_simp); try (with_reducible rfl))
  try simp only [Act.put, lay1, lay2, lay3]
  refine tk (i := 2) (oi := ⟨some 16, Op.fieldAddr 86 (Operand.tmp 15) 3, _, _, _, _⟩) (v := ?v80) rfl (Or.inl ⟨by rfl, ?hy80⟩) (by assumption) ?_
  case hy80 => ((intro w0 hSw; obtain ⟨⟨hs0, hs1, hs2⟩, ⟨hs3, hs4, hs5⟩, hs6⟩ := HK.out w0 hSw; go_simp); try (with_reducible rfl))
  try simp only [Act.put, lay1, lay2, lay3]
  refine tk (i := 3) (oi := ⟨some 17, Op.load 83 (Operand.tmp 16), _, _, _, _⟩) (v := ?v81) rfl (Or.inl ⟨by rfl, ?hy81⟩) (by assumption) ?_
  case hy81 => ((intro w0 hSw; obtain ⟨⟨hs0, hs1, hs2⟩, ⟨hs3, hs4, hs5⟩, hs6⟩ := HK.out w0 hSw; go_simp); try (with_reducible rfl))
  try simp only [Act.put, lay1, lay2, lay3]
  refine tk (i := 4) (oi := ⟨some 18, Op.fieldAddr 31 (Operand.tmp 3) 3, _, _, _, _⟩) (v := ?v82) rfl (Or.inl ⟨by rfl, ?hy82⟩) (by assumption) ?_
  case hy82 => ((intro w0 hSw; obtain ⟨⟨hs0, hs1, hs2⟩, ⟨hs3, hs4, hs5⟩, hs6⟩ := HK.out w0 hSw; go_simp); try (with_reducible rfl))
  try simp only [Act.put, lay1, lay2, lay3]
  refine tk (i := 5) (oi := ⟨some 19, Op.load 3 (Operand.tmp 18), _, _, _, _⟩) (v := ?v83) rfl (Or.inl ⟨by rfl, ?hy83⟩) (by assumption) ?_
  case hy83 => ((intro w0 hSw; obtain ⟨⟨hs0, hs1, hs2⟩, ⟨hs3, hs4, hs5⟩, hs6⟩ := HK.out w0 hSw; go_simp); try (with_reducible rfl))
  try simp only [Act.put, lay1, lay2, lay3]
  refine tk (i := 6) (oi := ⟨some 20, Op.lookup 83 (Operand.tmp 17) (Operand.tmp 19) true, _, _, _, _⟩) (v := ?v84) rfl (Or.inl ⟨by rfl, ?hy84⟩) (by assumption) ?_
  case hy84 => ((intro w0 hSw; obtain ⟨⟨hs0, hs1, hs2⟩, ⟨hs3, hs4, hs5⟩, hs6⟩ := HK.out w0 hSw; go_simp); try (with_reducible rfl))
  try simp only [Act.put, lay1, lay2, lay3]
  refine tk (i := 7) (oi := ⟨some 13, Op.move (Operand.tmp 20), _, _, _, _⟩) (v := ?v85) rfl (Or.inl ⟨by rfl, ?hy85⟩) (by assumption) ?_
  case hy85 => ((intro w0 hSw; obtain ⟨⟨hs0, hs1, hs2⟩, ⟨hs3, hs4, hs5⟩, hs6⟩ := HK.out w0 hSw; go_simp); try (with_reducible rfl))
  try simp only [Act.put, lay1, lay2, lay3]
  refine tk (i := 8) (oi := ⟨some 21, Op.extract (Operand.tmp 13) 0, _, _, _, _⟩) (v := ?v86) rfl (Or.inl ⟨by rfl, ?hy86⟩) (by assumption) ?_
  case hy86 => ((intro w0 hSw; obtain ⟨⟨hs0, hs1, hs2⟩, ⟨hs3, hs4, hs5⟩, hs6⟩ := HK.out w0 hSw; go_simp); try (with_reducible rfl))
  try simp only [Act.put, lay1, lay2, lay3]
  refine tk (i := 9) (oi := ⟨some 22, Op.extract (Operand.tmp 13) 1, _, _, _, _⟩) (v := ?v87) rfl (Or.inl ⟨by rfl, ?hy87⟩) (by assumption) ?_
  case hy87 => ((intro w0 hSw; obtain ⟨⟨hs0, hs1, hs2⟩, ⟨hs3, hs4, hs5⟩, hs6⟩ := HK.out w0 hSw; go_simp); try (with_reducible rfl))
  try simp only [Act.put, lay1, lay2, lay3]
  refine rd1 (i := 10) (o := ⟨some 5, Op.alloc 80, _, _, _, _⟩) rfl (fun K hK => ?_)
  go_simp
  refine hK.out _ _ (grown_alloc hHeld _) (fun hHeld => ?_)
  clear hK K
  try simp only [Act.put, lay1, lay2, lay3]
  refine rd1 (i := 11) (o := ⟨none, Op.store 80 (Operand.tmp 5) (Operand.tmp 21), _, _, _, _⟩) rfl (fun K hK => ?_)
  go_simp
  refine hK.out _ _ (grown_alloc HD.out _) (fun hHeld => ?_)
  clear hK K
  try simp only [Act.put, lay1, lay2, lay3]
  refine tk (i := 12) (oi := ⟨some 6, Op.assign (Operand.tmp 22), _, _, _, _⟩) (v := ?v88) rfl (Or.inl ⟨by rfl, ?hy88⟩) (by assumption) ?_
  case hy88 => ((intro w0 hSw; go_simp); try (with_reducible rfl))
  try simp only [Act.put, lay1, lay2, lay3]
  refine wpAnyH_done (by kernel_rfl) ?_ _
  obtain ⟨⟨f0, f1, f2⟩, ⟨f3, f4, f5⟩, f6⟩ := HK.out wd HD.out
  have hlt : w.heap.size < wd.heap.size := Nat.lt_of_lt_of_le HX.out HD.out.size
  have hne : ¬ w.heap.size = wd.heap.size := Nat.ne_of_lt hlt
  have hht : h < wd.heap.size := Nat.lt_trans HL.out hlt
  have hhe : ¬ h = wd.heap.size := Nat.ne_of_lt hht
  go_wp2_with (fail)
  go_ret
  exact ⟨rfl, grown_trans HG.out (grown_alloc HD.out _)⟩
set_option maxRecDepth 1000000 in
set_option maxHeartbeats 2000000 in
theorem ready_new (A : HomeAt w h c F H) (hK : tt.TabK w) (n : Nt) (hf : fits c n ∧ n.t = -1) (a0 a1 : Int) (a2 : Nat) (a3 : Bool) (a4 : Int) (is : Bool) (hx : askOr H n.b.toNat = #[.int .u8 a0, .int .i64 a1, .int .u32 (a2 : Int), .bool a3, .int .u64 a4]) (hi : (jbOf H n.b.toNat).isSome = is) (hk : n.k = 1 ∨ n.k = 2 ∨ n.k = 3) (hh : is = false) : Calls Tryd.prog 18 #[.pointer (some ⟨h, 0, none⟩), .agg (na n)] w fun e w' => e = .returned (.int .i64 0) ∧ w.grownBy w' none := by
  obtain ⟨wb, hwb⟩ : ∃ wb, w.alloc (.cells (na n) 31) = wb := ⟨_, rfl⟩
  have hgb : w.grownBy wb none := by rw [← hwb]; exact grown_alloc (grown_refl _ _) _
  have HA : Hid (∀ w', wb.grownBy w' none → HomeAt w' h c F H) := Lib.hid fun w' h' => A.grown (grown_trans hgb h')
  have hbx : wb.heap[w.heap.size]? = some (.cells (na n) 31 (0, 0)) := by rw [← hwb]; exact heap_alloc_new _ _
  have HR : Hid (∀ w', wb.grownBy w' none → w'.rangeAt w.heap.size 0 (nt n)) := Lib.hid fun w' h => tt.range_grown (tt.range_of hbx) h (by simp)
  have HM : Hid (∀ w', wb.grownBy w' none → _) := Lib.hid fun w' h' => hfits_any (HA.out w' h') ((hK.grown hgb).grown h') n
  have HG := Lib.hid hgb
  have HL : Hid (h < w.heap.size) := Lib.hid A.lt
  have HX : Hid (w.heap.size < wb.heap.size) := Lib.hid (lt_of hbx)
  rw [decide_eq_true hf] at HM
  have HK : Hid (∀ w', wb.grownBy w' none → (w'.cell? ⟨h, 0, none⟩ = some (.int .i64 c.co) ∧ w'.cell? ⟨h, 3, none⟩ = some (.map (some F.ub)) ∧ w'.cell? ⟨h, 4, none⟩ = some (.pointer (some ⟨F.pb, 0, none⟩))) ∧ (w'.cell? ⟨w.heap.size, 0, none⟩ = some (.int .u8 n.k) ∧ w'.cell? ⟨w.heap.size, 1, none⟩ = some (.int .i64 n.f) ∧ w'.cell? ⟨w.heap.size, 3, none⟩ = some (.int .i64 n.b)) ∧ (Instr.lookup 83 (.map (some F.ub)) (.int .i64 n.b) true).run Tryd.prog w' = .ok (.tuple #[.agg #[.int .u8 a0, .int .i64 a1, .int .u32 (a2 : Int), .bool a3, .int .u64 a4], .bool is]) w') := Lib.hid fun w' h' => by
    have hA := HA.out w' h'
    have hb := (blk_lt hf.1).1
    refine ⟨⟨hA.cells.1, hA.cells.2.2.2.1, hA.cells.2.2.2.2⟩, ⟨tt.cell_at (HR.out w' h') 0 _ rfl, tt.cell_at (HR.out w' h') 1 _ rfl, tt.cell_at (HR.out w' h') 3 _ rfl⟩, ?_⟩
    have := hA.look n.b.toNat
    rw [Int.toNat_of_nonneg hb, hx, hi] at this
    exact this
  have e9 : (n.k == 9) = false := by simp; omega
  have e10 : (n.k == 10) = false := by simp; omega
  have e11 : (n.k == 11) = false := by simp; omega
  subst hh
  clear hk
  have HHX := Lib.hid hx
  have HHI := Lib.hid hi
  clear A hK hgb hbx hf hx hi
  go_enter Tryd.func18, Tryd.ntmps18
  go_wp2_with (first
    | ((with_reducible refine tt.load_nt n _ w.heap.size ?_ (HR.out _ (grown_refl _ _)) ?_); (rfl))
    | (go_at_call 40; ((with_reducible refine (HM.out _ (grown_refl _ _)).mono ?_); rintro e w1 ⟨rfl, hg1⟩; have HG1 := Lib.hid hg1; clear hg1)))
  refine wp_region_held_drew (S := fun w' => wb.grownBy w' none) (by kernel_rfl) (tt.grown_drew HG1.out) (fun hHeld => ?_)
  generalize w1.drew = wd at hHeld ⊢
  have HD := Lib.hid hHeld
  refine tk (i := 0) (oi := ⟨some 14, Op.move (Operand.tmp 0), _, _, _, _⟩) (v := ?v89) rfl (Or.inl ⟨by rfl, ?hy89⟩) (by assumption) ?_
  case hy89 => ((intro w0 hSw; obtain ⟨⟨hs0, hs1, hs2⟩, ⟨hs3, hs4, hs5⟩, hs6⟩ := HK.out w0 hSw; go_simp); try (with_reducible rfl))
  try simp only [Act.put, lay1, lay2, lay3]
  refine tk (i := 1) (oi := ⟨some 15, Op.nilCheck (Operand.tmp 14), _, _, _, _⟩) (v := ?v90) rfl (Or.inl ⟨by rfl, ?hy90⟩) (by assumption) ?_
  case hy90 => ((intro w0 hSw; obtain ⟨⟨hs0, hs1, hs2⟩, ⟨hs3, hs4, hs5⟩, hs6⟩ := HK.out w0 hSw; go_simp); try (with_reducible rfl))
  try simp only [Act.put, lay1, lay2, lay3]
  refine tk (i := 2) (oi := ⟨some 16, Op.fieldAddr 86 (Operand.tmp 15) 3, _, _, _, _⟩) (v := ?v91) rfl (Or.inl ⟨by rfl, ?hy91⟩) (by assumption) ?_
  case hy91 => ((intro w0 hSw; obtain ⟨⟨hs0, hs1, hs2⟩, ⟨hs3, hs4, hs5⟩, hs6⟩ := HK.out w0 hSw; go_simp); try (with_reducible rfl))
  try simp only [Act.put, lay1, lay2, lay3]
  refine tk (i := 3) (oi := ⟨some 17, Op.load 83 (Operand.tmp 16), _, _, _, _⟩) (v := ?v92) rfl (Or.inl ⟨by rfl, ?hy92⟩) (by assumption) ?_
  case hy92 => ((intro w0 hSw; obtain ⟨⟨hs0, hs1, hs2⟩, ⟨hs3, hs4, hs5⟩, hs6⟩ := HK.out w0 hSw; go_simp); try (with_reducible rfl))
  try simp only [Act.put, lay1, lay2, lay3]
  refine tk (i := 4) (oi := ⟨some 18, Op.fieldAddr 31 (Operand.tmp 3) 3, _, _, _, _⟩) (v := ?v93) rfl (Or.inl ⟨by rfl, ?hy93⟩) (by assumption) ?_
  case hy93 => ((intro w0 hSw; obtain ⟨⟨hs0, hs1, hs2⟩, ⟨hs3, hs4, hs5⟩, hs6⟩ := HK.out w0 hSw; go_simp); try (with_reducible rfl))
  try simp only [Act.put, lay1, lay2, lay3]
  refine tk (i := 5) (oi := ⟨some 19, Op.load 3 (Operand.tmp 18), _, _, _, _⟩) (v := ?v94) rfl (Or.inl ⟨by rfl, ?hy94⟩) (by assumption) ?_
  case hy94 => ((intro w0 hSw; obtain ⟨⟨hs0, hs1, hs2⟩, ⟨hs3, hs4, hs5⟩, hs6⟩ := HK.out w0 hSw; go_simp); try (with_reducible rfl))
  try simp only [Act.put, lay1, lay2, lay3]
  refine tk (i := 6) (oi := ⟨some 20, Op.lookup 83 (Operand.tmp 17) (Operand.tmp 19) true, _, _, _, _⟩) (v := ?v95) rfl (Or.inl ⟨by rfl, ?hy95⟩) (by assumption) ?_
  case hy95 => ((intro w0 hSw; obtain ⟨⟨hs0, hs1, hs2⟩, ⟨hs3, hs4, hs5⟩, hs6⟩ := HK.out w0 hSw; go_simp); try (with_reducible rfl))
  try simp only [Act.put, lay1, lay2, lay3]
  refine tk (i := 7) (oi := ⟨some 13, Op.move (Operand.tmp 20), _, _, _, _⟩) (v := ?v96) rfl (Or.inl ⟨by rfl, ?hy96⟩) (by assumption) ?_
  case hy96 => ((intro w0 hSw; obtain ⟨⟨hs0, hs1, hs2⟩, ⟨hs3, hs4, hs5⟩, hs6⟩ := HK.out w0 hSw; go_simp); try (with_reducible rfl))
  try simp only [Act.put, lay1, lay2, lay3]
  refine tk (i := 8) (oi := ⟨some 21, Op.extract (Operand.tmp 13) 0, _, _, _, _⟩) (v := ?v97) rfl (Or.inl ⟨by rfl, ?hy97⟩) (by assumption) ?_
  case hy97 => ((intro w0 hSw; obtain ⟨⟨hs0, hs1, hs2⟩, ⟨hs3, hs4, hs5⟩, hs6⟩ := HK.out w0 hSw; go_simp); try (with_reducible rfl))
  try simp only [Act.put, lay1, lay2, lay3]
  refine tk (i := 9) (oi := ⟨some 22, Op.extract (Operand.tmp 13) 1, _, _, _, _⟩) (v := ?v98) rfl (Or.inl ⟨by rfl, ?hy98⟩) (by assumption) ?_
  case hy98 => ((intro w0 hSw; obtain ⟨⟨hs0, hs1, hs2⟩, ⟨hs3, hs4, hs5⟩, hs6⟩ := HK.out w0 hSw; go_simp); try (with_reducible rfl))
  try simp only [Act.put, lay1, lay2, lay3]
  refine rd1 (i := 10) (o := ⟨some 5, Op.alloc 80, _, _, _, _⟩) rfl (fun K hK => ?_)
  go_simp
  refine hK.out _ _ (grown_alloc hHeld _) (fun hHeld => ?_)
  clear hK K
  try simp only [Act.put, lay1, lay2, lay3]
  refine rd1 (i := 11) (o := ⟨none, Op.store 80 (Operand.tmp 5) (Operand.tmp 21), _, _, _, _⟩) rfl (fun K hK => ?_)
  go_simp
  refine hK.out _ _ (grown_alloc HD.out _) (fun hHeld => ?_)
  clear hK K
  try simp only [Act.put, lay1, lay2, lay3]
  refine tk (i := 12) (oi := ⟨some 6, Op.assign (Operand.tmp 22), _, _, _, _⟩) (v := ?v99) rfl (Or.inl ⟨by rfl, ?hy99⟩) (by assumption) ?_
  case hy99 => ((intro w0 hSw; go_simp); try (with_reducible rfl))
  try simp only [Act.put, lay1, lay2, lay3]
  refine wpAnyH_done (by kernel_rfl) ?_ _
  obtain ⟨⟨f0, f1, f2⟩, ⟨f3, f4, f5⟩, f6⟩ := HK.out wd HD.out
  have hlt : w.heap.size < wd.heap.size := Nat.lt_of_lt_of_le HX.out HD.out.size
  have hne : ¬ w.heap.size = wd.heap.size := Nat.ne_of_lt hlt
  have hht : h < wd.heap.size := Nat.lt_trans HL.out hlt
  have hhe : ¬ h = wd.heap.size := Nat.ne_of_lt hht
  go_wp2_with (fail)
  go_ret
  exact ⟨rfl, grown_trans HG.out (grown_alloc HD.out _)⟩
set_option maxRecDepth 1000000 in
set_option maxHeartbeats 2000000 in
theorem ready_full (A : HomeAt w h c F H) (hK : tt.TabK w) (n : Nt) (hf : fits c n ∧ n.t = -1) (a0 a1 : Int) (a2 : Nat) (a3 : Bool) (a4 : Int) (is : Bool) (hx : askOr H n.b.toNat = #[.int .u8 a0, .int .i64 a1, .int .u32 (a2 : Int), .bool a3, .int .u64 a4]) (hi : (jbOf H n.b.toNat).isSome = is) (hk : n.k = 1 ∨ n.k = 2 ∨ n.k = 3) (hh : is = true) (hr : room c ≤ H.wt.length) : Calls Tryd.prog 18 #[.pointer (some ⟨h, 0, none⟩), .agg (na n)] w fun e w' => e = .returned (.int .i64 110) ∧ w.grownBy w' none := by
  obtain ⟨wb, hwb⟩ : ∃ wb, w.alloc (.cells (na n) 31) = wb := ⟨_, rfl⟩
  have hgb : w.grownBy wb none := by rw [← hwb]; exact grown_alloc (grown_refl _ _) _
  have HA : Hid (∀ w', wb.grownBy w' none → HomeAt w' h c F H) := Lib.hid fun w' h' => A.grown (grown_trans hgb h')
  have hbx : wb.heap[w.heap.size]? = some (.cells (na n) 31 (0, 0)) := by rw [← hwb]; exact heap_alloc_new _ _
  have HR : Hid (∀ w', wb.grownBy w' none → w'.rangeAt w.heap.size 0 (nt n)) := Lib.hid fun w' h => tt.range_grown (tt.range_of hbx) h (by simp)
  have HM : Hid (∀ w', wb.grownBy w' none → _) := Lib.hid fun w' h' => hfits_any (HA.out w' h') ((hK.grown hgb).grown h') n
  have HG := Lib.hid hgb
  have HL : Hid (h < w.heap.size) := Lib.hid A.lt
  have HX : Hid (w.heap.size < wb.heap.size) := Lib.hid (lt_of hbx)
  rw [decide_eq_true hf] at HM
  have HK : Hid (∀ w', wb.grownBy w' none → (w'.cell? ⟨h, 0, none⟩ = some (.int .i64 c.co) ∧ w'.cell? ⟨h, 3, none⟩ = some (.map (some F.ub)) ∧ w'.cell? ⟨h, 4, none⟩ = some (.pointer (some ⟨F.pb, 0, none⟩))) ∧ (w'.cell? ⟨w.heap.size, 0, none⟩ = some (.int .u8 n.k) ∧ w'.cell? ⟨w.heap.size, 1, none⟩ = some (.int .i64 n.f) ∧ w'.cell? ⟨w.heap.size, 3, none⟩ = some (.int .i64 n.b)) ∧ (Instr.lookup 83 (.map (some F.ub)) (.int .i64 n.b) true).run Tryd.prog w' = .ok (.tuple #[.agg #[.int .u8 a0, .int .i64 a1, .int .u32 (a2 : Int), .bool a3, .int .u64 a4], .bool is]) w') := Lib.hid fun w' h' => by
    have hA := HA.out w' h'
    have hb := (blk_lt hf.1).1
    refine ⟨⟨hA.cells.1, hA.cells.2.2.2.1, hA.cells.2.2.2.2⟩, ⟨tt.cell_at (HR.out w' h') 0 _ rfl, tt.cell_at (HR.out w' h') 1 _ rfl, tt.cell_at (HR.out w' h') 3 _ rfl⟩, ?_⟩
    have := hA.look n.b.toNat
    rw [Int.toNat_of_nonneg hb, hx, hi] at this
    exact this
  have e9 : (n.k == 9) = false := by simp; omega
  have e10 : (n.k == 10) = false := by simp; omega
  have e11 : (n.k == 11) = false := by simp; omega
  subst hh
  have hrl := room_le A.inv.may
  have hfl := A.full
  have HQ : Hid (∀ w', wb.grownBy w' none → _) := Lib.hid fun w' h' => tt.proom_any F.pb F.pv (room c) H.wt w' (HA.out w' h').pool A.full hrl.2.1
  have e0 : ((room c : Int) - (H.wt.length : Int) == 0) = true := by simp; omega
  generalize (room c : Int) - (H.wt.length : Int) = dif at HQ e0
  clear hk hr hrl hfl
  have HHX := Lib.hid hx
  have HHI := Lib.hid hi
  clear A hK hgb hbx hf hx hi
  go_enter Tryd.func18, Tryd.ntmps18
  go_wp2_with (first
    | ((with_reducible refine tt.load_nt n _ w.heap.size ?_ (HR.out _ (grown_refl _ _)) ?_); (rfl))
    | (go_at_call 40; ((with_reducible refine (HM.out _ (grown_refl _ _)).mono ?_); rintro e w1 ⟨rfl, hg1⟩; have HG1 := Lib.hid hg1; clear hg1)))
  refine wp_region_held_drew (S := fun w' => wb.grownBy w' none) (by kernel_rfl) (tt.grown_drew HG1.out) (fun hHeld => ?_)
  generalize w1.drew = wd at hHeld ⊢
  have HD := Lib.hid hHeld
  refine tk (i := 0) (oi := ⟨some 14, Op.move (Operand.tmp 0), _, _, _, _⟩) (v := ?v100) rfl (Or.inl ⟨by rfl, ?hy100⟩) (by assumption) ?_
  case hy100 => ((intro w0 hSw; obtain ⟨⟨hs0, hs1, hs2⟩, ⟨hs3, hs4, hs5⟩, hs6⟩ := HK.out w0 hSw; go_simp); try (with_reducible rfl))
  try simp only [Act.put, lay1, lay2, lay3]
  refine tk (i := 1) (oi := ⟨some 15, Op.nilCheck (Operand.tmp 14), _, _, _, _⟩) (v := ?v101) rfl (Or.inl ⟨by rfl, ?hy101⟩) (by assumption) ?_
  case hy101 => ((intro w0 hSw; obtain ⟨⟨hs0, hs1, hs2⟩, ⟨hs3, hs4, hs5⟩, hs6⟩ := HK.out w0 hSw; go_simp); try (with_reducible rfl))
  try simp only [Act.put, lay1, lay2, lay3]
  refine tk (i := 2) (oi := ⟨some 16, Op.fieldAddr 86 (Operand.tmp 15) 3, _, _, _, _⟩) (v := ?v102) rfl (Or.inl ⟨by rfl, ?hy102⟩) (by assumption) ?_
  case hy102 => ((intro w0 hSw; obtain ⟨⟨hs0, hs1, hs2⟩, ⟨hs3, hs4, hs5⟩, hs6⟩ := HK.out w0 hSw; go_simp); try (with_reducible rfl))
  try simp only [Act.put, lay1, lay2, lay3]
  refine tk (i := 3) (oi := ⟨some 17, Op.load 83 (Operand.tmp 16), _, _, _, _⟩) (v := ?v103) rfl (Or.inl ⟨by rfl, ?hy103⟩) (by assumption) ?_
  case hy103 => ((intro w0 hSw; obtain ⟨⟨hs0, hs1, hs2⟩, ⟨hs3, hs4, hs5⟩, hs6⟩ := HK.out w0 hSw; go_simp); try (with_reducible rfl))
  try simp only [Act.put, lay1, lay2, lay3]
  refine tk (i := 4) (oi := ⟨some 18, Op.fieldAddr 31 (Operand.tmp 3) 3, _, _, _, _⟩) (v := ?v104) rfl (Or.inl ⟨by rfl, ?hy104⟩) (by assumption) ?_
  case hy104 => ((intro w0 hSw; obtain ⟨⟨hs0, hs1, hs2⟩, ⟨hs3, hs4, hs5⟩, hs6⟩ := HK.out w0 hSw; go_simp); try (with_reducible rfl))
  try simp only [Act.put, lay1, lay2, lay3]
  refine tk (i := 5) (oi := ⟨some 19, Op.load 3 (Operand.tmp 18), _, _, _, _⟩) (v := ?v105) rfl (Or.inl ⟨by rfl, ?hy105⟩) (by assumption) ?_
  case hy105 => ((intro w0 hSw; obtain ⟨⟨hs0, hs1, hs2⟩, ⟨hs3, hs4, hs5⟩, hs6⟩ := HK.out w0 hSw; go_simp); try (with_reducible rfl))
  try simp only [Act.put, lay1, lay2, lay3]
  refine tk (i := 6) (oi := ⟨some 20, Op.lookup 83 (Operand.tmp 17) (Operand.tmp 19) true, _, _, _, _⟩) (v := ?v106) rfl (Or.inl ⟨by rfl, ?hy106⟩) (by assumption) ?_
  case hy106 => ((intro w0 hSw; obtain ⟨⟨hs0, hs1, hs2⟩, ⟨hs3, hs4, hs5⟩, hs6⟩ := HK.out w0 hSw; go_simp); try (with_reducible rfl))
  try simp only [Act.put, lay1, lay2, lay3]
  refine tk (i := 7) (oi := ⟨some 13, Op.move (Operand.tmp 20), _, _, _, _⟩) (v := ?v107) rfl (Or.inl ⟨by rfl, ?hy107⟩) (by assumption) ?_
  case hy107 => ((intro w0 hSw; obtain ⟨⟨hs0, hs1, hs2⟩, ⟨hs3, hs4, hs5⟩, hs6⟩ := HK.out w0 hSw; go_simp); try (with_reducible rfl))
  try simp only [Act.put, lay1, lay2, lay3]
  refine tk (i := 8) (oi := ⟨some 21, Op.extract (Operand.tmp 13) 0, _, _, _, _⟩) (v := ?v108) rfl (Or.inl ⟨by rfl, ?hy108⟩) (by assumption) ?_
  case hy108 => ((intro w0 hSw; obtain ⟨⟨hs0, hs1, hs2⟩, ⟨hs3, hs4, hs5⟩, hs6⟩ := HK.out w0 hSw; go_simp); try (with_reducible rfl))
  try simp only [Act.put, lay1, lay2, lay3]
  refine tk (i := 9) (oi := ⟨some 22, Op.extract (Operand.tmp 13) 1, _, _, _, _⟩) (v := ?v109) rfl (Or.inl ⟨by rfl, ?hy109⟩) (by assumption) ?_
  case hy109 => ((intro w0 hSw; obtain ⟨⟨hs0, hs1, hs2⟩, ⟨hs3, hs4, hs5⟩, hs6⟩ := HK.out w0 hSw; go_simp); try (with_reducible rfl))
  try simp only [Act.put, lay1, lay2, lay3]
  refine rd1 (i := 10) (o := ⟨some 5, Op.alloc 80, _, _, _, _⟩) rfl (fun K hK => ?_)
  go_simp
  refine hK.out _ _ (grown_alloc hHeld _) (fun hHeld => ?_)
  clear hK K
  try simp only [Act.put, lay1, lay2, lay3]
  refine rd1 (i := 11) (o := ⟨none, Op.store 80 (Operand.tmp 5) (Operand.tmp 21), _, _, _, _⟩) rfl (fun K hK => ?_)
  go_simp
  refine hK.out _ _ (grown_alloc HD.out _) (fun hHeld => ?_)
  clear hK K
  try simp only [Act.put, lay1, lay2, lay3]
  refine tk (i := 12) (oi := ⟨some 6, Op.assign (Operand.tmp 22), _, _, _, _⟩) (v := ?v110) rfl (Or.inl ⟨by rfl, ?hy110⟩) (by assumption) ?_
  case hy110 => ((intro w0 hSw; go_simp); try (with_reducible rfl))
  try simp only [Act.put, lay1, lay2, lay3]
  refine wpAnyH_done (by kernel_rfl) ?_ _
  obtain ⟨⟨f0, f1, f2⟩, ⟨f3, f4, f5⟩, f6⟩ := HK.out wd HD.out
  have hlt : w.heap.size < wd.heap.size := Nat.lt_of_lt_of_le HX.out HD.out.size
  have hne : ¬ w.heap.size = wd.heap.size := Nat.ne_of_lt hlt
  have hht : h < wd.heap.size := Nat.lt_trans HL.out hlt
  have hhe : ¬ h = wd.heap.size := Nat.ne_of_lt hht
  go_wp2_with (go_at_call 42; ((with_reducible refine (HQ.out _ (grown_alloc HD.out _)).mono ?_); rintro e w5 ⟨rfl, hq5⟩; have HQ5 := Lib.hid hq5; clear hq5))
  go_ret
  obtain ⟨nq, rfl⟩ := HQ5.out
  exact ⟨rfl, grown_trans HG.out (tt.grown_drewN (grown_alloc HD.out _) _)⟩
set_option maxRecDepth 1000000 in
set_option maxHeartbeats 2000000 in
theorem ready_wait (A : HomeAt w h c F H) (hK : tt.TabK w) (n : Nt) (hf : fits c n ∧ n.t = -1) (a0 a1 : Int) (a2 : Nat) (a3 : Bool) (a4 : Int) (is : Bool) (hx : askOr H n.b.toNat = #[.int .u8 a0, .int .i64 a1, .int .u32 (a2 : Int), .bool a3, .int .u64 a4]) (hi : (jbOf H n.b.toNat).isSome = is) (hk : n.k = 1 ∨ n.k = 2 ∨ n.k = 3) (hh : is = true) (hr : ¬ room c ≤ H.wt.length) : Calls Tryd.prog 18 #[.pointer (some ⟨h, 0, none⟩), .agg (na n)] w fun e w' => e = .returned (.int .i64 0) ∧ w.grownBy w' none := by
  obtain ⟨wb, hwb⟩ : ∃ wb, w.alloc (.cells (na n) 31) = wb := ⟨_, rfl⟩
  have hgb : w.grownBy wb none := by rw [← hwb]; exact grown_alloc (grown_refl _ _) _
  have HA : Hid (∀ w', wb.grownBy w' none → HomeAt w' h c F H) := Lib.hid fun w' h' => A.grown (grown_trans hgb h')
  have hbx : wb.heap[w.heap.size]? = some (.cells (na n) 31 (0, 0)) := by rw [← hwb]; exact heap_alloc_new _ _
  have HR : Hid (∀ w', wb.grownBy w' none → w'.rangeAt w.heap.size 0 (nt n)) := Lib.hid fun w' h => tt.range_grown (tt.range_of hbx) h (by simp)
  have HM : Hid (∀ w', wb.grownBy w' none → _) := Lib.hid fun w' h' => hfits_any (HA.out w' h') ((hK.grown hgb).grown h') n
  have HG := Lib.hid hgb
  have HL : Hid (h < w.heap.size) := Lib.hid A.lt
  have HX : Hid (w.heap.size < wb.heap.size) := Lib.hid (lt_of hbx)
  rw [decide_eq_true hf] at HM
  have HK : Hid (∀ w', wb.grownBy w' none → (w'.cell? ⟨h, 0, none⟩ = some (.int .i64 c.co) ∧ w'.cell? ⟨h, 3, none⟩ = some (.map (some F.ub)) ∧ w'.cell? ⟨h, 4, none⟩ = some (.pointer (some ⟨F.pb, 0, none⟩))) ∧ (w'.cell? ⟨w.heap.size, 0, none⟩ = some (.int .u8 n.k) ∧ w'.cell? ⟨w.heap.size, 1, none⟩ = some (.int .i64 n.f) ∧ w'.cell? ⟨w.heap.size, 3, none⟩ = some (.int .i64 n.b)) ∧ (Instr.lookup 83 (.map (some F.ub)) (.int .i64 n.b) true).run Tryd.prog w' = .ok (.tuple #[.agg #[.int .u8 a0, .int .i64 a1, .int .u32 (a2 : Int), .bool a3, .int .u64 a4], .bool is]) w') := Lib.hid fun w' h' => by
    have hA := HA.out w' h'
    have hb := (blk_lt hf.1).1
    refine ⟨⟨hA.cells.1, hA.cells.2.2.2.1, hA.cells.2.2.2.2⟩, ⟨tt.cell_at (HR.out w' h') 0 _ rfl, tt.cell_at (HR.out w' h') 1 _ rfl, tt.cell_at (HR.out w' h') 3 _ rfl⟩, ?_⟩
    have := hA.look n.b.toNat
    rw [Int.toNat_of_nonneg hb, hx, hi] at this
    exact this
  have e9 : (n.k == 9) = false := by simp; omega
  have e10 : (n.k == 10) = false := by simp; omega
  have e11 : (n.k == 11) = false := by simp; omega
  subst hh
  have hrl := room_le A.inv.may
  have hfl := A.full
  have HQ : Hid (∀ w', wb.grownBy w' none → _) := Lib.hid fun w' h' => tt.proom_any F.pb F.pv (room c) H.wt w' (HA.out w' h').pool A.full hrl.2.1
  have e0 : ((room c : Int) - (H.wt.length : Int) == 0) = false := by simp; omega
  generalize (room c : Int) - (H.wt.length : Int) = dif at HQ e0
  clear hk hr hrl hfl
  have HHX := Lib.hid hx
  have HHI := Lib.hid hi
  clear A hK hgb hbx hf hx hi
  go_enter Tryd.func18, Tryd.ntmps18
  go_wp2_with (first
    | ((with_reducible refine tt.load_nt n _ w.heap.size ?_ (HR.out _ (grown_refl _ _)) ?_); (rfl))
    | (go_at_call 40; ((with_reducible refine (HM.out _ (grown_refl _ _)).mono ?_); rintro e w1 ⟨rfl, hg1⟩; have HG1 := Lib.hid hg1; clear hg1)))
  refine wp_region_held_drew (S := fun w' => wb.grownBy w' none) (by kernel_rfl) (tt.grown_drew HG1.out) (fun hHeld => ?_)
  generalize w1.drew = wd at hHeld ⊢
  have HD := Lib.hid hHeld
  refine tk (i := 0) (oi := ⟨some 14, Op.move (Operand.tmp 0), _, _, _, _⟩) (v := ?v111) rfl (Or.inl ⟨by rfl, ?hy111⟩) (by assumption) ?_
  case hy111 => ((intro w0 hSw; obtain ⟨⟨hs0, hs1, hs2⟩, ⟨hs3, hs4, hs5⟩, hs6⟩ := HK.out w0 hSw; go_simp); try (with_reducible rfl))
  try simp only [Act.put, lay1, lay2, lay3]
  refine tk (i := 1) (oi := ⟨some 15, Op.nilCheck (Operand.tmp 14), _, _, _, _⟩) (v := ?v112) rfl (Or.inl ⟨by rfl, ?hy112⟩) (by assumption) ?_
  case hy112 => ((intro w0 hSw; obtain ⟨⟨hs0, hs1, hs2⟩, ⟨hs3, hs4, hs5⟩, hs6⟩ := HK.out w0 hSw; go_simp); try (with_reducible rfl))
  try simp only [Act.put, lay1, lay2, lay3]
  refine tk (i := 2) (oi := ⟨some 16, Op.fieldAddr 86 (Operand.tmp 15) 3, _, _, _, _⟩) (v := ?v113) rfl (Or.inl ⟨by rfl, ?hy113⟩) (by assumption) ?_
  case hy113 => ((intro w0 hSw; obtain ⟨⟨hs0, hs1, hs2⟩, ⟨hs3, hs4, hs5⟩, hs6⟩ := HK.out w0 hSw; go_simp); try (with_reducible rfl))
  try simp only [Act.put, lay1, lay2, lay3]
  refine tk (i := 3) (oi := ⟨some 17, Op.load 83 (Operand.tmp 16), _, _, _, _⟩) (v := ?v114) rfl (Or.inl ⟨by rfl, ?hy114⟩) (by assumption) ?_
  case hy114 => ((intro w0 hSw; obtain ⟨⟨hs0, hs1, hs2⟩, ⟨hs3, hs4, hs5⟩, hs6⟩ := HK.out w0 hSw; go_simp); try (with_reducible rfl))
  try simp only [Act.put, lay1, lay2, lay3]
  refine tk (i := 4) (oi := ⟨some 18, Op.fieldAddr 31 (Operand.tmp 3) 3, _, _, _, _⟩) (v := ?v115) rfl (Or.inl ⟨by rfl, ?hy115⟩) (by assumption) ?_
  case hy115 => ((intro w0 hSw; obtain ⟨⟨hs0, hs1, hs2⟩, ⟨hs3, hs4, hs5⟩, hs6⟩ := HK.out w0 hSw; go_simp); try (with_reducible rfl))
  try simp only [Act.put, lay1, lay2, lay3]
  refine tk (i := 5) (oi := ⟨some 19, Op.load 3 (Operand.tmp 18), _, _, _, _⟩) (v := ?v116) rfl (Or.inl ⟨by rfl, ?hy116⟩) (by assumption) ?_
  case hy116 => ((intro w0 hSw; obtain ⟨⟨hs0, hs1, hs2⟩, ⟨hs3, hs4, hs5⟩, hs6⟩ := HK.out w0 hSw; go_simp); try (with_reducible rfl))
  try simp only [Act.put, lay1, lay2, lay3]
  refine tk (i := 6) (oi := ⟨some 20, Op.lookup 83 (Operand.tmp 17) (Operand.tmp 19) true, _, _, _, _⟩) (v := ?v117) rfl (Or.inl ⟨by rfl, ?hy117⟩) (by assumption) ?_
  case hy117 => ((intro w0 hSw; obtain ⟨⟨hs0, hs1, hs2⟩, ⟨hs3, hs4, hs5⟩, hs6⟩ := HK.out w0 hSw; go_simp); try (with_reducible rfl))
  try simp only [Act.put, lay1, lay2, lay3]
  refine tk (i := 7) (oi := ⟨some 13, Op.move (Operand.tmp 20), _, _, _, _⟩) (v := ?v118) rfl (Or.inl ⟨by rfl, ?hy118⟩) (by assumption) ?_
  case hy118 => ((intro w0 hSw; obtain ⟨⟨hs0, hs1, hs2⟩, ⟨hs3, hs4, hs5⟩, hs6⟩ := HK.out w0 hSw; go_simp); try (with_reducible rfl))
  try simp only [Act.put, lay1, lay2, lay3]
  refine tk (i := 8) (oi := ⟨some 21, Op.extract (Operand.tmp 13) 0, _, _, _, _⟩) (v := ?v119) rfl (Or.inl ⟨by rfl, ?hy119⟩) (by assumption) ?_
  case hy119 => ((intro w0 hSw; obtain ⟨⟨hs0, hs1, hs2⟩, ⟨hs3, hs4, hs5⟩, hs6⟩ := HK.out w0 hSw; go_simp); try (with_reducible rfl))
  try simp only [Act.put, lay1, lay2, lay3]
  refine tk (i := 9) (oi := ⟨some 22, Op.extract (Operand.tmp 13) 1, _, _, _, _⟩) (v := ?v120) rfl (Or.inl ⟨by rfl, ?hy120⟩) (by assumption) ?_
  case hy120 => ((intro w0 hSw; obtain ⟨⟨hs0, hs1, hs2⟩, ⟨hs3, hs4, hs5⟩, hs6⟩ := HK.out w0 hSw; go_simp); try (with_reducible rfl))
  try simp only [Act.put, lay1, lay2, lay3]
  refine rd1 (i := 10) (o := ⟨some 5, Op.alloc 80, _, _, _, _⟩) rfl (fun K hK => ?_)
  go_simp
  refine hK.out _ _ (grown_alloc hHeld _) (fun hHeld => ?_)
  clear hK K
  try simp only [Act.put, lay1, lay2, lay3]
  refine rd1 (i := 11) (o := ⟨none, Op.store 80 (Operand.tmp 5) (Operand.tmp 21), _, _, _, _⟩) rfl (fun K hK => ?_)
  go_simp
  refine hK.out _ _ (grown_alloc HD.out _) (fun hHeld => ?_)
  clear hK K
  try simp only [Act.put, lay1, lay2, lay3]
  refine tk (i := 12) (oi := ⟨some 6, Op.assign (Operand.tmp 22), _, _, _, _⟩) (v := ?v121) rfl (Or.inl ⟨by rfl, ?hy121⟩) (by assumption) ?_
  case hy121 => ((intro w0 hSw; go_simp); try (with_reducible rfl))
  try simp only [Act.put, lay1, lay2, lay3]
  refine wpAnyH_done (by kernel_rfl) ?_ _
  obtain ⟨⟨f0, f1, f2⟩, ⟨f3, f4, f5⟩, f6⟩ := HK.out wd HD.out
  have hlt : w.heap.size < wd.heap.size := Nat.lt_of_lt_of_le HX.out HD.out.size
  have hne : ¬ w.heap.size = wd.heap.size := Nat.ne_of_lt hlt
  have hht : h < wd.heap.size := Nat.lt_trans HL.out hlt
  have hhe : ¬ h = wd.heap.size := Nat.ne_of_lt hht
  go_wp2_with (go_at_call 42; ((with_reducible refine (HQ.out _ (grown_alloc HD.out _)).mono ?_); rintro e w5 ⟨rfl, hq5⟩; have HQ5 := Lib.hid hq5; clear hq5))
  go_ret
  obtain ⟨nq, rfl⟩ := HQ5.out
  exact ⟨rfl, grown_trans HG.out (tt.grown_drewN (grown_alloc HD.out _) _)⟩
theorem ha_of {m : Nat} {f : Int} (hf : -1 ≤ f ∧ f ≤ 15) (h0 : 0 ≤ f) : mm.ha m f = m.testBit f.toNat := by
  unfold mm.ha
  rw [decide_eq_true (p := 0 ≤ f ∧ f < 32) (by omega), Bool.true_and]
/-- A note to the home: its kind, its core. -/
theorem to_home {n : Nt} (hf : fits c n) (ht : n.t = -1) : (n.k = 1 ∨ n.k = 2 ∨ n.k = 3 ∨ n.k = 9 ∨ n.k = 10 ∨ n.k = 11) ∧ 0 ≤ n.f ∧ n.f ≤ 15 := by
  have h1 := hf.1.1
  have hr := (tt.rule_ok n h1 hf.1.2.1).1 hf.1
  have hT : tt.tH n.k = true := by
    cases h : tt.tH n.k with
    | true => rfl
    | false =>
      have := hr.core
      rw [h] at this
      simp at this
      omega
  have hc := hr.core
  rw [hT] at hc
  have hT' : 1 ≤ n.k ∧ n.k ≤ 3 ∨ 9 ≤ n.k ∧ n.k ≤ 11 := of_decide_eq_true hT
  simp at hc
  omega
theorem net_asks {k : Int} (h : 1 ≤ k ∧ k ≤ 11) : net k = 0 ↔ (k = 1 ∨ k = 2 ∨ k = 3) := by
  unfold tt.net
  rw [if_pos h]
  constructor
  · intro e
    by_cases h3 : k ≤ 3
    · omega
    · rw [if_neg h3] at e
      split at e <;> simp at e
  · intro e; rw [if_pos (by omega)]
theorem ready_any (A : HomeAt w h c F H) (hK : tt.TabK w) (n : Nt) : Calls Tryd.prog 18 #[.pointer (some ⟨h, 0, none⟩), .agg (na n)] w fun e w' => e = .returned (.int .i64 (ready c H n)) ∧ w.grownBy w' none := by
  by_cases hf : fits c n ∧ n.t = -1
  · obtain ⟨hk, hf0, hf1⟩ := to_home hf.1 hf.2
    unfold ready
    rw [if_neg (fun (e : ¬ fits c n ∨ n.t ≠ -1) => e.elim (fun e => e hf.1) (fun e => e hf.2))]
    have hna := net_asks hf.1.1.1
    have hrl := room_le A.inv.may
    cases hj : jbOf H n.b.toNat with
    | none =>
      have hx : askOr H n.b.toNat = #[.int .u8 0, .int .i64 0, .int .u32 ((0 : Nat) : Int), .bool false, .int .u64 0] := by unfold askOr; rw [hj]; rfl
      have hi : (jbOf H n.b.toNat).isSome = false := by rw [hj]; rfl
      rcases hk with hk | hk | hk | hk | hk | hk
      · rw [if_pos (hna.2 (by omega)), if_neg (by simp)]
        exact ready_new A hK n hf _ _ _ _ _ _ hx hi (by omega) rfl
      · rw [if_pos (hna.2 (by omega)), if_neg (by simp)]
        exact ready_new A hK n hf _ _ _ _ _ _ hx hi (by omega) rfl
      · rw [if_pos (hna.2 (by omega)), if_neg (by simp)]
        exact ready_new A hK n hf _ _ _ _ _ _ hx hi (by omega) rfl
      · rw [if_neg (fun e => by have := hna.1 e; omega)]
        exact ready_9_f A hK n hf _ _ _ _ _ _ hx hi hk (by decide) (by rw [ha_of ⟨by omega, hf1⟩ hf0]; simp)
      · rw [if_neg (fun e => by have := hna.1 e; omega)]
        exact ready_10_f A hK n hf _ _ _ _ _ _ hx hi hk (by decide) (by rw [ha_of ⟨by omega, hf1⟩ hf0]; simp)
      · rw [if_neg (fun e => by have := hna.1 e; omega)]
        exact ready_11_no A hK n hf _ _ _ _ _ _ hx hi hk rfl
    | some j =>
      have hx : askOr H n.b.toNat = #[.int .u8 j.a.k, .int .i64 j.a.f, .int .u32 (j.w : Int), .bool j.r, .int .u64 j.l] := by unfold askOr; rw [hj]; rfl
      have hi : (jbOf H n.b.toNat).isSome = true := by rw [hj]; rfl
      have hjo := A.inv.jobs _ j (jbOf_get hj)
      have hok := A.ok _ j (jbOf_get hj)
      have asks : (n.k = 1 ∨ n.k = 2 ∨ n.k = 3) → Calls Tryd.prog 18 #[.pointer (some ⟨h, 0, none⟩), .agg (na n)] w fun e w' => e = .returned (.int .i64 (if (some j).isSome = true ∧ roomH c ≤ (H.wt.length : Int) then 110 else 0)) ∧ w.grownBy w' none := fun hk => by
        by_cases hr : room c ≤ H.wt.length
        · rw [if_pos ⟨rfl, by omega⟩]; exact ready_full A hK n hf _ _ _ _ _ _ hx hi hk rfl hr
        · rw [if_neg (fun e => by have := e.2; omega)]; exact ready_wait A hK n hf _ _ _ _ _ _ hx hi hk rfl hr
      have ack : j.d = false ∧ j.w.testBit n.f.toNat = true ↔ mm.ha j.w n.f = true := by
        rw [ha_of ⟨by omega, hf1⟩ hf0]
        refine ⟨fun e => e.2, fun e => ⟨?_, e⟩⟩
        rw [hok]
        exact decide_eq_false (fun e0 => by rw [e0] at e; simp at e)
      rcases hk with hk | hk | hk | hk | hk | hk
      · rw [if_pos (hna.2 (by omega))]; exact asks (by omega)
      · rw [if_pos (hna.2 (by omega))]; exact asks (by omega)
      · rw [if_pos (hna.2 (by omega))]; exact asks (by omega)
      · rw [if_neg (fun e => by have := hna.1 e; omega)]
        dsimp only
        rw [if_neg (by omega)]
        by_cases hh : mm.ha j.w n.f = true
        · rw [if_pos (ack.2 hh)]; exact ready_9_t A hK n hf _ _ _ _ _ _ hx hi hk hjo.w hh
        · rw [if_neg (fun e => hh (ack.1 e))]; exact ready_9_f A hK n hf _ _ _ _ _ _ hx hi hk hjo.w (by simpa using hh)
      · rw [if_neg (fun e => by have := hna.1 e; omega)]
        dsimp only
        rw [if_neg (by omega)]
        by_cases hh : mm.ha j.w n.f = true
        · rw [if_pos (ack.2 hh)]; exact ready_10_t A hK n hf _ _ _ _ _ _ hx hi hk hjo.w hh
        · rw [if_neg (fun e => hh (ack.1 e))]; exact ready_10_f A hK n hf _ _ _ _ _ _ hx hi hk hjo.w (by simpa using hh)
      · rw [if_neg (fun e => by have := hna.1 e; omega)]
        dsimp only
        rw [if_pos hk]
        by_cases hw : j.w = 0
        · have hd : j.d = true := by rw [hok]; exact decide_eq_true hw
          by_cases hc : j.a.f = n.f
          · rw [if_pos ⟨hd, hc⟩]; exact ready_11_yes A hK n hf _ _ _ _ _ _ hx hi hk rfl (by rw [hw]; rfl) (by simpa using hc)
          · rw [if_neg (fun e => hc e.2)]; exact ready_11_not A hK n hf _ _ _ _ _ _ hx hi hk rfl (by rw [hw]; rfl) (by simpa using hc)
        · have hd : j.d = false := by rw [hok]; exact decide_eq_false hw
          rw [if_neg (fun e => by rw [hd] at e; exact absurd e.1 (by decide))]
          exact ready_11_left A hK n hf _ _ _ _ _ _ hx hi hk rfl (by simp; omega)
  · have hr : ready c H n = 2 := by
      unfold ready
      rw [if_pos]
      by_cases h1 : fits c n
      · exact .inr fun e => hf ⟨h1, e⟩
      · exact .inl h1
    rw [hr]
    exact ready_bad A hK n hf
end
end Go.Proofs.YtenhdijbcdkfbaaDoor.hh
