/-
  What take, Find, Drop, Kill of Backs answer, and what is there behind them: contracts. No condition but the bounds that each theorem names.
-/
import Derived.Test.YtoifeinkaaclmaaDoorBkC
namespace Go.Proofs.YtoifeinkaaclmaaDoor.bk
open Go Go.ChangeShapes Go.WideShapes Go.ChangeAt Go.RowKit
open Go.Proofs.YtoifeinkaaclmaaDoor.tt (Cfg Tab CfgAt cfg_at U zd row tyne add_lit lt_of range_grown heap_setCells_other setCells_rest grown_setCells grown_setRow grown_new grown_drewN below_of grown_alloc grown_refl grown_trans grown_drew Sl Pool Turn Next flat)
set_option linter.unusedVariables false
set_option maxRecDepth 1000000

/-- What Find tells of a block. -/
def fd (o : Option Bk) : List Int := match o with | some x => x.d | none => zd
def fl (o : Option Bk) : Bool := match o with | some x => x.l | none => false
theorem fd_len (o : Option Bk) : (fd o).length = 16 := by
  cases o with
  | none => rfl
  | some x => exact x.hd

theorem dead_set (x : Bk) : (ba x).setIfInBounds 17 (.bool false) = ba (dead x) := by
  obtain ⟨b, d, l, hd⟩ := x
  match d, hd with
  | [d0, d1, d2, d3, d4, d5, d6, d7, d8, d9, d10, d11, d12, d13, d14, d15], _ => rfl

section
variable (t p : Nat) (v : Value) (n : Int) (m : Nat) (ns : List Bk) (w : World) (H : BkAt w t p v n m ns)
include H
theorem take_any (b : Int) : Calls Tryd.prog 31 #[.pointer (some ⟨t, 0, none⟩), .int .i64 b] w fun e w' => e = .returned (.tuple #[.agg (ba ((look ns b).getD zb)), .bool (look ns b).isSome]) ∧ ∃ v', BkAt w' t p v' n m (rem ns b) ∧ Turn w w' p v v' := by
  rcases ff_look ns b with ⟨h1, h2⟩ | ⟨k, x, h1, h2, h3, h4⟩
  · rw [h1, rem_none h1]
    refine (take_gen t p v n m ns w H b (-1) zb 5 ns h2 fun w' h => (ptake_out p v m ns (-1) w' (H.grown h).pool (Or.inl (by omega))).mono ?_).mono ?_
    · rintro e w'' ⟨rfl, hg⟩
      exact ⟨rfl, v, (H.grown (grown_trans h hg)).pool, Turn.of_grown _ _ hg⟩
    · rintro e w' ⟨rfl, v', hP, hT⟩
      exact ⟨rfl, v', H.next hT hP H.len, hT⟩
  · rw [h1]
    refine (take_gen t p v n m ns w H b k x 0 (rem ns b) h2 fun w' h => (ptake_in p v m ns k x w' (H.grown h).pool h3 H.short).mono ?_).mono ?_
    · rintro e w'' ⟨rfl, v', hP, hT⟩
      rw [h4] at hP
      exact ⟨rfl, v', hP, hT⟩
    · rintro e w' ⟨rfl, v', hP, hT⟩
      exact ⟨rfl, v', H.next hT hP (Nat.le_trans (rem_le ns b) H.len), hT⟩
theorem find_any (b : Int) : Calls Tryd.prog 13 #[.pointer (some ⟨t, 0, none⟩), .int .i64 b] w fun e w' => e = .returned (.tuple #[.agg (row (fd (look ns b))), .bool (fl (look ns b)), .bool (look ns b).isSome]) ∧ ∃ v', BkAt w' t p v' n m ns ∧ Turn w w' p v v' := by
  rcases ff_look ns b with ⟨h1, h2⟩ | ⟨k, x, h1, h2, h3, h4⟩
  · rw [h1]
    refine (find_gen t p v n m ns w H b (-1) zb 5 ns h2 fun w' h => (pat_out p v m ns (-1) w' (H.grown h).pool (Or.inl (by omega))).mono ?_).mono ?_
    · rintro e w'' ⟨rfl, hg⟩
      exact ⟨rfl, v, (H.grown (grown_trans h hg)).pool, Turn.of_grown _ _ hg⟩
    · rintro e w' ⟨rfl, v', hP, hT⟩
      exact ⟨rfl, v', H.next hT hP H.len, hT⟩
  · rw [h1]
    refine (find_gen t p v n m ns w H b k x 0 ns h2 fun w' h => (pat_in p v m ns k x w' (H.grown h).pool h3).mono ?_).mono ?_
    · rintro e w'' ⟨rfl, hg⟩
      exact ⟨rfl, v, (H.grown (grown_trans h hg)).pool, Turn.of_grown _ _ hg⟩
    · rintro e w' ⟨rfl, v', hP, hT⟩
      exact ⟨rfl, v', H.next hT hP H.len, hT⟩
set_option maxHeartbeats 1000000 in
theorem drop_any (b : Int) : Calls Tryd.prog 14 #[.pointer (some ⟨t, 0, none⟩), .int .i64 b] w fun e w' => e = .returned (.bool (look ns b).isSome) ∧ ∃ v', BkAt w' t p v' n m (rem ns b) ∧ Turn w w' p v v' := by
  have HT := Lib.hid (take_any t p v n m ns w H b)
  obtain ⟨x, hx⟩ : ∃ x, x = (look ns b).getD zb := ⟨_, rfl⟩
  obtain ⟨q, hq⟩ : ∃ q, q = (look ns b).isSome := ⟨_, rfl⟩
  rw [← hx, ← hq] at HT
  rw [← hq]
  clear H hx hq
  go_enter Tryd.func14, Tryd.ntmps14
  go_wp2_with (first
    | (go_at_call 31; ((with_reducible refine HT.out.mono ?_); rintro e w1 ⟨rfl, v', hB, hT⟩; have HB := Lib.hid hB; have HT1 := Lib.hid hT; clear hB hT))
    | ((with_reducible refine store_new x _ _ _ ?_ ?_ ?_ ?_); (rfl); (rfl); (rfl)))
  go_ret
  exact ⟨rfl, v', HB.out.grown (grown_alloc (grown_refl _ _) _), HT1.out.trans (Turn.of_grown p v' (grown_alloc (grown_refl _ _) _))⟩
set_option maxHeartbeats 1000000 in
theorem kill_no (b : Int) (hno : look ns b = none) : Calls Tryd.prog 12 #[.pointer (some ⟨t, 0, none⟩), .int .i64 b] w fun e w' => e = .returned (.bool false) ∧ ∃ v', BkAt w' t p v' n m ns ∧ Turn w w' p v v' := by
  have HT := Lib.hid (take_any t p v n m ns w H b)
  rw [hno, rem_none hno] at HT
  simp only [Option.getD_none, Option.isSome_none] at HT
  clear H hno
  go_enter Tryd.func12, Tryd.ntmps12
  go_wp2_with (first
    | (go_at_call 31; ((with_reducible refine HT.out.mono ?_); rintro e w1 ⟨rfl, v', hB, hT⟩; have HB := Lib.hid hB; have HT1 := Lib.hid hT; clear hB hT))
    | ((with_reducible refine store_new zb _ _ _ ?_ ?_ ?_ ?_); (rfl); (rfl); (rfl)))
  go_ret
  exact ⟨rfl, v', HB.out.grown (grown_alloc (grown_refl _ _) _), HT1.out.trans (Turn.of_grown p v' (grown_alloc (grown_refl _ _) _))⟩
set_option maxHeartbeats 1000000 in
theorem kill_yes (b : Int) (x : Bk) (hx : look ns b = some x) : Calls Tryd.prog 12 #[.pointer (some ⟨t, 0, none⟩), .int .i64 b] w fun e w' => e = .returned (.bool x.l) ∧ ∃ v', BkAt w' t p v' n m (rem ns b ++ [dead x]) ∧ Turn w w' p v v' := by
  have HT := Lib.hid (take_any t p v n m ns w H b)
  have hlen := rem_len hx
  have HL := Lib.hid (show (rem ns b).length < m by have := H.len; omega)
  have HRM := Lib.hid H.room
  rw [hx] at HT
  simp only [Option.getD_some, Option.isSome_some] at HT
  obtain ⟨rs, hrs⟩ : ∃ rs, rs = rem ns b := ⟨_, rfl⟩
  rw [← hrs] at HT HL ⊢
  have h17 : (ba x)[17]? = some (.bool x.l) := by have := bt_l x; simpa [ba] using this
  clear H hx hlen hrs
  go_enter Tryd.func12, Tryd.ntmps12
  go_wp2_with (first
    | (go_at_call 31; ((with_reducible refine HT.out.mono ?_); rintro e w1 ⟨rfl, v', hB, hT⟩; have HB := Lib.hid hB; have HT1 := Lib.hid hT; have c17 := box w1 x 17 _ (bt_l x); clear hB hT))
    | ((with_reducible refine store_new x _ _ _ ?_ ?_ ?_ ?_); (rfl); (rfl); (rfl)))
  rw [dead_set]
  obtain ⟨W2, hW2⟩ : ∃ W2, w1.alloc (.cells (ba (dead x)) 57) = W2 := ⟨_, rfl⟩
  have hg2 : w1.grownBy W2 none := by rw [← hW2]; exact grown_alloc (grown_refl _ _) _
  have HB2 := Lib.hid (HB.out.grown hg2)
  have hc := HB2.out.c1
  have HN : Hid (W2.heap[w1.heap.size]? = some (.cells (ba (dead x)) 57 (0, 0))) := Lib.hid (by rw [← hW2]; exact heap_alloc_new _ _)
  have HG2 := Lib.hid hg2
  rw [hW2]
  clear hW2 hg2 h17 c17
  obtain ⟨tn, mm, HTT, hagg, hsize, hld⟩ := named
  rw [HTT.out]
  have HL1 : Hid (∀ W, W2.grownBy W none → (loadCellsFrom ⟨w1.heap.size, 0, none⟩ 0 mm #[]).run Tryd.prog W = .ok (ba (dead x)) W) := Lib.hid fun W h => hld w1.heap.size (dead x) W (range_of ((h.block _ (lt_of HN.out) (by simp)).trans HN.out))
  have HPT := Lib.hid fun (W : World) (h : W2.grownBy W none) => pput_ok p v' m rs (dead x) W (HB2.out.grown h).pool HL.out HRM.out
  refine wp_region_held_drew (S := fun W => W.cell? ⟨t, 1, none⟩ = some (.pointer (some ⟨p, 0, none⟩)) ∧ (loadCellsFrom ⟨w1.heap.size, 0, none⟩ 0 mm #[]).run Tryd.prog W = .ok (ba (dead x)) W) (by kernel_rfl) ⟨hc, HL1.out _ (grown_drew (grown_refl _ _))⟩ (fun hHeld => ?_)
  have HG0 := Lib.hid (grown_drew (grown_refl W2 none))
  generalize W2.drew = W0 at hHeld HG0 ⊢
  refine wpAnyH_take (i := 0) (oi := ⟨some 19, Op.move (Operand.tmp 0), _, _, _, _⟩) (v := ?v1) rfl (by kernel_rfl) (by kernel_rfl) (by kernel_rfl) (fun _ _ _ h => h) (Or.inl ⟨by rfl, ?hy1⟩) (by assumption) ?rest1
  case hy1 => ((intro w0 hSw; have hc1 := hSw.1; go_simp); try (with_reducible rfl))
  try simp only [Act.put, List.setIfInBounds_toArray, List.set_cons_zero, List.set_cons_succ]
  refine wpAnyH_take (i := 1) (oi := ⟨some 20, Op.nilCheck (Operand.tmp 19), _, _, _, _⟩) (v := ?v2) rfl (by kernel_rfl) (by kernel_rfl) (by kernel_rfl) (fun _ _ _ h => h) (Or.inl ⟨by rfl, ?hy2⟩) (by assumption) ?rest2
  case hy2 => ((intro w0 hSw; have hc1 := hSw.1; go_simp); try (with_reducible rfl))
  try simp only [Act.put, List.setIfInBounds_toArray, List.set_cons_zero, List.set_cons_succ]
  refine wpAnyH_take (i := 2) (oi := ⟨some 21, Op.fieldAddr 59 (Operand.tmp 20) 1, _, _, _, _⟩) (v := ?v3) rfl (by kernel_rfl) (by kernel_rfl) (by kernel_rfl) (fun _ _ _ h => h) (Or.inl ⟨by rfl, ?hy3⟩) (by assumption) ?rest3
  case hy3 => ((intro w0 hSw; have hc1 := hSw.1; go_simp); try (with_reducible rfl))
  try simp only [Act.put, List.setIfInBounds_toArray, List.set_cons_zero, List.set_cons_succ]
  refine wpAnyH_take (i := 3) (oi := ⟨some 22, Op.load 53 (Operand.tmp 21), _, _, _, _⟩) (v := ?v4) rfl (by kernel_rfl) (by kernel_rfl) (by kernel_rfl) (fun _ _ _ h => h) (Or.inl ⟨by rfl, ?hy4⟩) (by assumption) ?rest4
  case hy4 => ((intro w0 hSw; have hc1 := hSw.1; go_simp); try (with_reducible rfl))
  try simp only [Act.put, List.setIfInBounds_toArray, List.set_cons_zero, List.set_cons_succ]
  refine wpAnyH_take (i := 4) (oi := ⟨some 23, Op.load tn (Operand.tmp 5), _, _, _, _⟩) (v := ?v5) rfl (by kernel_rfl) (by kernel_rfl) (by kernel_rfl) (fun _ _ _ h => h) (Or.inl ⟨by rfl, ?hy5⟩) (by assumption) ?rest5
  case hy5 => ((intro w0 hSw; have hl1 := hSw.2; go_simp); try (with_reducible rfl))
  try simp only [Act.put, List.setIfInBounds_toArray, List.set_cons_zero, List.set_cons_succ]
  refine wpAnyH_ready (rs := [5]) (by kernel_rfl) (by simp) ?_
  refine AllReadyH.cons (o := ⟨some 24, Op.call { callee := Callee.value (Operand.func 30), args := #[(Operand.tmp 22), (Operand.tmp 23)], argTypes := #[53, 57] }, _, _, _, _⟩) rfl (fun K hK => ?_) AllReadyH.nil
  go_simp
  (with_reducible refine (HPT.out _ HG0.out).mono ?_); rintro e w3 ⟨rfl, v3, hP3, hT3⟩
  have hT4 := Lib.hid ((Turn.of_grown p v' (grown_trans HG2.out HG0.out)).trans hT3)
  have hB3 := HB.out.next hT4.out hP3 (show (rs ++ [dead x]).length ≤ m by have := HL.out; simp; omega)
  have hl3 := hld w1.heap.size (dead x) w3 (range_of ((hT3.block w1.heap.size (by have := lt_of HN.out; have := HG0.out.size; omega) (by have := HB.out.pool.lt; omega) (fun e => by have := HB.out.pool.sl.lt _ e.symm; omega)).trans ((HG0.out.block _ (lt_of HN.out) (by simp)).trans HN.out)))
  have HS3 := Lib.hid (And.intro hB3.c1 hl3)
  clear hB3 hl3 hld
  have HP3 := Lib.hid hP3
  clear hP3 hT3
  go_wp2_with fail
  refine hK.out _ _ HS3.out (fun _ => ?_)
  clear hK K
  try simp only [Act.put, List.setIfInBounds_toArray, List.set_cons_zero, List.set_cons_succ]
  refine wpAnyH_done (by kernel_rfl) ?_ _
  go_wp2_with fail
  go_ret
  exact ⟨rfl, v3, HB.out.next hT4.out HP3.out (by have := HL.out; simp; omega), HT1.out.trans hT4.out⟩
/-- What Kill leaves. -/
def kills (ns : List Bk) (b : Int) : List Bk := match look ns b with | some x => rem ns b ++ [dead x] | none => ns
theorem kill_any (b : Int) : Calls Tryd.prog 12 #[.pointer (some ⟨t, 0, none⟩), .int .i64 b] w fun e w' => e = .returned (.bool (fl (look ns b))) ∧ ∃ v', BkAt w' t p v' n m (kills ns b) ∧ Turn w w' p v v' := by
  unfold kills
  cases h : look ns b with
  | none => exact kill_no t p v n m ns w H b h
  | some x => exact kill_yes t p v n m ns w H b x h
end

theorem build_fold (b : Int) (d : List Int) (hd : d.length = 16) : Array.foldl (fun (cs : Array Value) (x : Value × Nat) => cs.setIfInBounds (1 + x.snd) x.fst) #[.int .i64 b, .int .u32 0, .int .u32 0, .int .u32 0, .int .u32 0, .int .u32 0, .int .u32 0, .int .u32 0, .int .u32 0, .int .u32 0, .int .u32 0, .int .u32 0, .int .u32 0, .int .u32 0, .int .u32 0, .int .u32 0, .int .u32 0, .bool false] (row d).zipIdx 0 16 = ba ⟨b, d, false, hd⟩ := by
  match d, hd with
  | [d0, d1, d2, d3, d4, d5, d6, d7, d8, d9, d10, d11, d12, d13, d14, d15], _ => simp [row, ba, bt]
theorem build_live (b : Int) (d : List Int) (hd : d.length = 16) : (ba ⟨b, d, false, hd⟩).setIfInBounds 17 (.bool true) = ba (fresh b d hd) := by
  match d, hd with
  | [d0, d1, d2, d3, d4, d5, d6, d7, d8, d9, d10, d11, d12, d13, d14, d15], _ => rfl
section
variable (t p : Nat) (v : Value) (n : Int) (m : Nat) (ns : List Bk) (w : World) (H : BkAt w t p v n m ns)
include H
set_option maxHeartbeats 1000000 in
theorem put_bad (b : Int) (d : List Int) (hd : d.length = 16) (hb : b < 0 ∨ n ≤ b) : Calls Tryd.prog 11 #[.pointer (some ⟨t, 0, none⟩), .int .i64 b, .agg (row d)] w fun e w' => e = .returned (.int .i64 2) ∧ w.grownBy w' none := by
  have hg : w.grownBy (w.alloc (.cells (row d) 33)) none := grown_alloc (grown_refl _ _) _
  have hc0 := (H.grown hg).c0
  have HG := Lib.hid hg
  clear H hg
  by_cases h0 : b < 0
  · clear hb
    go_enter Tryd.func11, Tryd.ntmps11
    go_wp2
    go_ret
    exact ⟨rfl, HG.out⟩
  · have h1 : n ≤ b := by omega
    clear hb
    go_enter Tryd.func11, Tryd.ntmps11
    go_wp2
    go_ret
    exact ⟨rfl, HG.out⟩
set_option maxHeartbeats 1000000 in
theorem put_there (b : Int) (d : List Int) (hd : d.length = 16) (h0 : 0 ≤ b) (h1 : b < n) (k : Nat) (hff : ff ns b 0 = (k : Int)) : Calls Tryd.prog 11 #[.pointer (some ⟨t, 0, none⟩), .int .i64 b, .agg (row d)] w fun e w' => e = .returned (.int .i64 8) ∧ w.grownBy w' none := by
  have hg : w.grownBy (w.alloc (.cells (row d) 33)) none := grown_alloc (grown_refl _ _) _
  have hc0 := (H.grown hg).c0
  have HPL := Lib.hid (place_any t p v n m ns _ (H.grown hg) b)
  rw [hff] at HPL
  have HG := Lib.hid hg
  clear H hg hff
  go_enter Tryd.func11, Tryd.ntmps11
  go_wp2_with (go_at_call 29; ((with_reducible refine HPL.out.mono ?_); rintro e w1 ⟨rfl, hg1⟩; have HG1 := Lib.hid hg1; clear hg1))
  go_ret
  exact ⟨rfl, grown_trans HG.out HG1.out⟩
set_option maxHeartbeats 1000000 in
theorem put_gen (b : Int) (d : List Int) (hd : d.length = 16) (h0 : 0 ≤ b) (h1 : b < n) (hff : ff ns b 0 = -1) (e0 : Int) (ns' : List Bk) (hl' : ns'.length ≤ m) (hPT : ∀ w', w.grownBy w' none → Calls Tryd.prog 30 #[.pointer (some ⟨p, 0, none⟩), .agg (ba (fresh b d hd))] w' fun e' w'' => e' = .returned (.int .i64 e0) ∧ ∃ v', BPool w'' p v' m ns' ∧ Turn w' w'' p v v') :
    Calls Tryd.prog 11 #[.pointer (some ⟨t, 0, none⟩), .int .i64 b, .agg (row d)] w fun e w' => e = .returned (.int .i64 e0) ∧ ∃ v', BkAt w' t p v' n m ns' ∧ Turn w w' p v v' := by
  have hg : w.grownBy (w.alloc (.cells (row d) 33)) none := grown_alloc (grown_refl _ _) _
  have hc0 := (H.grown hg).c0
  have HPL := Lib.hid (place_any t p v n m ns _ (H.grown hg) b)
  rw [hff] at HPL
  have HG := Lib.hid hg
  have HH := Lib.hid H
  have HPT := Lib.hid hPT
  have HD : Hid ((w.alloc (.cells (row d) 33)).rangeAt w.heap.size 0 (d.map U)) := Lib.hid fun j u hu => by
    rw [Nat.zero_add, cell_of_row _ _ j _ _ _ (heap_alloc_new w (.cells (row d) 33))]
    simpa [row] using hu
  clear H hg hff hPT
  go_enter Tryd.func11, Tryd.ntmps11
  go_wp2_with (go_at_call 29; ((with_reducible refine HPL.out.mono ?_); rintro e w1 ⟨rfl, hg1⟩; have HG1 := Lib.hid hg1; clear hg1))
  have hgw := grown_trans HG.out HG1.out
  have hc1 := (HH.out.grown hgw).c1
  obtain ⟨ty, sz, HTY, hagg, hsize, hld, hsr, hst⟩ := named29
  have HL1 : Hid (∀ W, w1.grownBy W none → (loadCellsFrom ⟨w.heap.size, 0, none⟩ 0 sz #[]).run Tryd.prog W = .ok (row d) W) := Lib.hid fun W h => hld w.heap.size 0 d hd W (range_grown HD.out (own := none) (grown_trans HG1.out h) (by simp))
  have HGW := Lib.hid hgw
  clear hst hc0 hgw hsr
  rw [HTY.out.1]
  refine wp_region_held_drew (S := fun W => W.cell? ⟨t, 1, none⟩ = some (.pointer (some ⟨p, 0, none⟩)) ∧ (loadCellsFrom ⟨w.heap.size, 0, none⟩ 0 sz #[]).run Tryd.prog W = .ok (row d) W) (by kernel_rfl) ⟨hc1, HL1.out _ (grown_drew (grown_refl _ _))⟩ (fun hHeld => ?_)
  have HG0 := Lib.hid (grown_drew (grown_refl w1 none))
  generalize w1.drew = W0 at hHeld HG0 ⊢
  refine wpAnyH_take (i := 0) (oi := ⟨some 23, Op.move (Operand.tmp 0), _, _, _, _⟩) (v := ?v6) rfl (by kernel_rfl) (by kernel_rfl) (by kernel_rfl) (fun _ _ _ h => h) (Or.inl ⟨by rfl, ?hy6⟩) (by assumption) ?rest6
  case hy6 => ((intro w0 hSw; have hc1 := hSw.1; go_simp); try (with_reducible rfl))
  try simp only [Act.put, List.setIfInBounds_toArray, List.set_cons_zero, List.set_cons_succ]
  refine wpAnyH_take (i := 1) (oi := ⟨some 24, Op.nilCheck (Operand.tmp 23), _, _, _, _⟩) (v := ?v7) rfl (by kernel_rfl) (by kernel_rfl) (by kernel_rfl) (fun _ _ _ h => h) (Or.inl ⟨by rfl, ?hy7⟩) (by assumption) ?rest7
  case hy7 => ((intro w0 hSw; have hc1 := hSw.1; go_simp); try (with_reducible rfl))
  try simp only [Act.put, List.setIfInBounds_toArray, List.set_cons_zero, List.set_cons_succ]
  refine wpAnyH_take (i := 2) (oi := ⟨some 25, Op.fieldAddr 59 (Operand.tmp 24) 1, _, _, _, _⟩) (v := ?v8) rfl (by kernel_rfl) (by kernel_rfl) (by kernel_rfl) (fun _ _ _ h => h) (Or.inl ⟨by rfl, ?hy8⟩) (by assumption) ?rest8
  case hy8 => ((intro w0 hSw; have hc1 := hSw.1; go_simp); try (with_reducible rfl))
  try simp only [Act.put, List.setIfInBounds_toArray, List.set_cons_zero, List.set_cons_succ]
  refine wpAnyH_take (i := 3) (oi := ⟨some 26, Op.load 53 (Operand.tmp 25), _, _, _, _⟩) (v := ?v9) rfl (by kernel_rfl) (by kernel_rfl) (by kernel_rfl) (fun _ _ _ h => h) (Or.inl ⟨by rfl, ?hy9⟩) (by assumption) ?rest9
  case hy9 => ((intro w0 hSw; have hc1 := hSw.1; go_simp); try (with_reducible rfl))
  try simp only [Act.put, List.setIfInBounds_toArray, List.set_cons_zero, List.set_cons_succ]
  refine wpAnyH_take (i := 4) (oi := ⟨some 27, Op.move (Operand.tmp 1), _, _, _, _⟩) (v := ?v10) rfl (by kernel_rfl) (by kernel_rfl) (by kernel_rfl) (fun _ _ _ h => h) (Or.inl ⟨by rfl, ?hy10⟩) (by assumption) ?rest10
  case hy10 => ((intro w0 hSw; have hc1 := hSw.1; go_simp); try (with_reducible rfl))
  try simp only [Act.put, List.setIfInBounds_toArray, List.set_cons_zero, List.set_cons_succ]
  refine wpAnyH_take (i := 5) (oi := ⟨some 28, Op.load ty (Operand.tmp 5), _, _, _, _⟩) (v := ?v11) rfl (by kernel_rfl) (by kernel_rfl) (by kernel_rfl) (fun _ _ _ h => h) (Or.inl ⟨by rfl, ?hy11⟩) (by assumption) ?rest11
  case hy11 => ((intro w0 hSw; have hl1 := hSw.2; go_simp); try (with_reducible rfl))
  try simp only [Act.put, List.setIfInBounds_toArray, List.set_cons_zero, List.set_cons_succ]
  refine wpAnyH_take (i := 6) (oi := ⟨some 29, Op.build 57 #[(0, (Operand.tmp 27)), (1, (Operand.tmp 28)), (2, Operand.const (Value.bool true))], _, _, _, _⟩) (v := ?v12) rfl (by kernel_rfl) (by kernel_rfl) (by kernel_rfl) (fun _ _ _ h => h) (Or.inl ⟨by rfl, ?hy12⟩) (by assumption) ?rest12
  case hy12 => ((intro w0 hSw; have hb1 := build_fold b d hd; have hb2 := ba_size ⟨b, d, false, hd⟩; have hb3 := build_live b d hd; have hb4 : (row d).size = 16 := (by simp [row, hd]); go_simp); try (with_reducible rfl))
  try simp only [Act.put, List.setIfInBounds_toArray, List.set_cons_zero, List.set_cons_succ]
  refine wpAnyH_ready (rs := [7]) (by kernel_rfl) (by simp) ?_
  refine AllReadyH.cons (o := ⟨some 30, Op.call { callee := Callee.value (Operand.func 30), args := #[(Operand.tmp 26), (Operand.tmp 29)], argTypes := #[53, 57] }, _, _, _, _⟩) rfl (fun K hK => ?_) AllReadyH.nil
  go_simp
  (with_reducible refine (HPT.out _ (grown_trans HGW.out HG0.out)).mono ?_); rintro e w3 ⟨rfl, v3, hP3, hT3⟩
  have hT4 := Lib.hid ((Turn.of_grown p v (grown_trans HGW.out HG0.out)).trans hT3)
  have hB3 := HH.out.next hT4.out hP3 hl'
  have hsz1 : w.heap.size < w1.heap.size := by have := HG1.out.size; simp at this; omega
  have hl3 := hld w.heap.size 0 d hd w3 (fun j u hu => (World.cell?_of_block (hT3.block w.heap.size (by have := HG0.out.size; omega) (by have := HH.out.pool.lt; omega) (fun e => by have := HH.out.pool.sl.lt _ e.symm; omega))).trans ((range_grown HD.out (own := none) (grown_trans HG1.out HG0.out) (by simp)) j u hu))
  have HS3 := Lib.hid (And.intro hB3.c1 hl3)
  clear hB3 hl3 hld hsz1
  have HP3 := Lib.hid hP3
  clear hP3 hT3
  go_wp2_with fail
  refine hK.out _ _ HS3.out (fun hHeld => ?_)
  clear hK K
  try simp only [Act.put, List.setIfInBounds_toArray, List.set_cons_zero, List.set_cons_succ]
  refine wpAnyH_take (i := 8) (oi := ⟨some 6, Op.assign (Operand.tmp 30), _, _, _, _⟩) (v := ?v13) rfl (by kernel_rfl) (by kernel_rfl) (by kernel_rfl) (fun _ _ _ h => h) (Or.inl ⟨by rfl, ?hy13⟩) (by assumption) ?rest13
  case hy13 => ((intro w0 hSw; go_simp); try (with_reducible rfl))
  try simp only [Act.put, List.setIfInBounds_toArray, List.set_cons_zero, List.set_cons_succ]
  refine wpAnyH_done (by kernel_rfl) ?_ _
  go_wp2_with fail
  go_ret
  exact ⟨rfl, v3, HH.out.next hT4.out HP3.out hl', hT4.out⟩
end
end Go.Proofs.YtoifeinkaaclmaaDoor.bk
