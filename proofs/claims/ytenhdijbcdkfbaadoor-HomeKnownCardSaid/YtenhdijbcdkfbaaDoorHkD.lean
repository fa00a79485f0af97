/-
  HomeKnown's walk. No condition but that the tables lie in their variables.
-/
import Derived.Test.YtenhdijbcdkfbaaDoorHk
import Derived.Test.YtenhdijbcdkfbaaDoorHd
namespace Go.Proofs.YtenhdijbcdkfbaaDoor.hh
open Go Go.ChangeShapes Go.WideShapes Go.ChangeAt Go.RowKit
open Go.Proofs.YtenhdijbcdkfbaaDoor.tt (Nt Cfg fits net bare zd usd uses coreOf ok_ends MapAt mput mdel ik NPool NSl Turn flat na nt zn grown_alloc grown_refl grown_trans tyne lt_of)
open Go.Proofs.YtenhdijbcdkfbaaDoor.en (En gets back asked asks free ask_parts may_parts ea)
open Go.Proofs.YtenhdijbcdkfbaaDoor.mm (wi wo ones wo_lt)
set_option linter.unusedVariables false
set_option linter.unusedSimpArgs false

theorem run_flds (g k : Nat) (ty : TypeId) (u : Value) (us : List Value) (x y : Nt) (w : World) (hi : (Tryd.prog.info? ty).map (·.size) = some us.length) (hc : u.cells = us.toArray) (hu : ∀ v ∈ us, v.oneCell' = true) (hg : w.heap[g]? = some (.cells (na x) 31 (0, 0))) (hk : k + us.length ≤ 24) (hy : (nt x).take k ++ us ++ (nt x).drop (k + us.length) = nt y) :
    (Instr.storeAt ty (.pointer (some ⟨g, k, none⟩)) u).run Tryd.prog w = .ok () (w.setRow g (na y)) := by
  have hst := run_storeCells_at Tryd.prog g k 31 us 0 (na x) w hg (by rw [tt.na_size]; omega) hu
  have he : ((na x).toList.take (k + 0) ++ us ++ (na x).toList.drop (k + 0 + us.length)).toArray = na y := by
    show ((nt x).take k ++ us ++ (nt x).drop (k + us.length)).toArray = _
    rw [hy]; rfl
  rw [he] at hst
  cases hq : Tryd.prog.info? ty with
  | none => simp [hq] at hi
  | some i =>
    have hs : i.size = us.length := by simpa [hq] using hi
    simp [Instr.storeAt, Instr.sureAddr, storeVar, sizeOf, typeInfo, hq, hc, hs, hst]
theorem fire_fld {w wk : World} {h : Nat} {F : Ft} {H : Hm} {vs : List (Nat × Nt)} {ops : Array Oper} {o : Oper} {a : Act} {K : Act → World → Prop} {Q : Exit → Act → World → Prop} {E : Prop} (hgd : o.guard = none) (ty : TypeId) (p : Tmp) (y : Operand) (ho : o.op = .store ty (.tmp p) y) (O : Fs w wk h F H vs) (i kk B : Nat) (u : Value) (us : List Value) (x n : Nt)
    (hi : vs[i]? = some (B, x)) (hp : a.eval (.tmp p) = .pointer (some ⟨B, kk, none⟩)) (hv : a.eval y = u) (hf : (Tryd.prog.info? ty).map (·.size) = some us.length) (hc : u.cells = us.toArray) (hu : ∀ v ∈ us, v.oneCell' = true) (hk : kk + us.length ≤ 24) (hy : (nt x).take kk ++ us ++ (nt x).drop (kk + us.length) = nt n)
    (k : ∀ w', Fs w w' h F H (vs.set i (B, n)) → K (a.put o.dst undef) w') : if Region.wanted o (yielded ops a.tmps) = true then Oper.wp Tryd.prog o a wk K Q else E := by
  have hw : Region.wanted o (yielded ops a.tmps) = true := by simp [Region.wanted, hgd]
  rw [if_pos hw]
  have hrun := run_flds B kk ty u us x n wk hf hc hu (O.fl.vars _ (List.mem_of_getElem? hi)).1 hk hy
  unfold Oper.wp execOp
  simp only [ho, hp, hv, Sem.run_bind, hrun, Result.andThen_ok]
  exact k _ (O.set i n hi)
def d77 : List Int := [0, 0, 77, 0, 0, 0, 0, 0, 0, 0, 0, 0, 0, 0, 0, 0]
def b1 : Nt := bare 6 (-1) 1 5 0 3 false false
def b2 : Nt := bare 6 (-1) 1 5 0 3 true false
def b0 : Nt := ⟨6, -1, 1, 5, 0, 3, true, false, d77, rfl⟩
def ack1 : Nt := bare 9 0 (-1) 5 0 0 true false
def ack0 : Nt := ⟨9, 0, -1, 5, 0, 0, true, false, d77, rfl⟩
def ref0 : Nt := bare 10 1 (-1) 5 7 0 false false
def nack0 : Nt := bare 7 (-1) 0 5 7 0 false false
def w2' : Hm := (take c2 w1' (upn 2 1)).1
def w3' : Hm := (take c2 w2' (upn 11 0)).1
def w4' : Hm := (take c2 w3' ack0).1
def w5' : Hm := (take c2 w4' (upn 11 1)).1
def w6' : Hm := (take c2 w5' (upn 1 0)).1
def w7' : Hm := (take c2 w6' ref0).1
theorem g3 : (take c2 w2' (upn 11 0)).2.2 = 0 ∧ (take c2 w2' (upn 11 0)).2.1 = [dnn 5 0] := by decide +kernel
theorem g4 : (take c2 w3' ack0).2.2 = 0 ∧ (take c2 w3' ack0).2.1 = [b0] := by decide +kernel
theorem g5 : (take c2 w4' (upn 11 1)).2.2 = 0 ∧ (take c2 w4' (upn 11 1)).2.1 = [] := by decide +kernel
theorem g6 : (take c2 w5' (upn 1 0)).2.2 = 0 ∧ (take c2 w5' (upn 1 0)).2.1 = [dnn 4 1] := by decide +kernel
theorem g7 : (take c2 w6' ref0).2.2 = 0 ∧ (take c2 w6' ref0).2.1 = [nack0] := by decide +kernel
theorem g7b : (jbOf w7' 5).isSome = false := by decide +kernel
theorem wack : Word ack0 := ⟨Int.le_refl _, by show (0 : Int) < _; omega⟩
theorem wref : Word ref0 := ⟨by decide, by decide⟩
theorem load_gd {w : World} {ops : Array Oper} {rest : List Oper} {a : Act} {Q : Exit → Act → World → Prop} {dst : Option Tmp} {ty' : TypeId} {pos : String} {after : Array Edge} {gd : Option (Nat × Bool)} (n : Nt) (x : Tmp) (g : Nat) (hx : a.eval (.tmp x) = .pointer (some ⟨g, 0, none⟩))
    (hw : Region.wanted ⟨dst, .load 31 (.tmp x), ty', pos, after, gd⟩ (yielded ops a.tmps) = true) (hg : w.rangeAt g 0 (nt n)) (h : wpList Tryd.prog ops Q rest (a.put dst (.agg (na n))) w) : wpList Tryd.prog ops Q (⟨dst, .load 31 (.tmp x), ty', pos, after, gd⟩ :: rest) a w := by
  show (if _ then _ else _)
  rw [if_pos hw]
  exact .inl (wp_load_mid 31 (.tmp x) rfl g 0 hx (nt n) _ hg Tryd.underlying31 rfl (tt.info31' n) h)
set_option maxHeartbeats 1000000 in
theorem ready_nil (n : Nt) (w : World) : Calls Tryd.prog 18 #[.pointer none, .agg (na n)] w fun e w' => e = .returned (.int .i64 1) ∧ w.grownBy w' none := by
  go_enter Tryd.func18, Tryd.ntmps18
  go_wp2
  go_ret
  exact ⟨rfl, grown_alloc (grown_refl _ _) _⟩
set_option maxHeartbeats 1000000 in
theorem take_nil (n : Nt) (w : World) : Calls Tryd.prog 16 #[.pointer none, .agg (na n)] w fun e w' => e = .returned (.tuple #[.slice none 0 0, .int .i64 1]) ∧ w.grownBy w' none := by
  obtain ⟨wb, hwb⟩ : ∃ wb, w.alloc (.cells (na n) 31) = wb := ⟨_, rfl⟩
  have hgb : w.grownBy wb none := by rw [← hwb]; exact grown_alloc (grown_refl _ _) _
  have HBX := Lib.hid (tt.range_of (heap_alloc_new w (.cells (na n) 31)))
  have HG := Lib.hid hgb
  rw [hwb] at HBX
  clear hgb
  go_enter Tryd.func16, Tryd.ntmps16
  go_wp2_with (first
    | ((with_reducible refine tt.load_nt n _ w.heap.size ?_ (by first | exact HBX.out | (rw [hwb]; exact HBX.out)) ?_); (rfl))
    | (go_at_call 18; ((with_reducible refine (ready_nil n _).mono ?_); rintro e w2 ⟨rfl, hg2⟩; (try rw [hwb] at hg2); have HG2 := Lib.hid hg2; clear hg2)))
  go_ret2
  exact ⟨rfl, grown_trans HG.out HG2.out⟩
set_option maxRecDepth 1000000 in
set_option maxHeartbeats 8000000 in
theorem known_any (w : World) (T : Tabs w) : Calls Tryd.prog 3 #[] w fun e w' => e = .returned (.bool true) ∧ w.grownBy w' none := by
  have HB := Lib.hid (begun_any w T)
  have HT := Lib.hid T
  have HW := Lib.hid fun w' (hg : w.grownBy w' none) => works_any w' (T.grown hg)
  clear T
  go_enter Tryd.func3, Tryd.ntmps3
  go_wp2_with (first
    | (go_at_call 8; ((with_reducible refine HB.out.mono ?_); rintro e w1 ⟨h, F, rfl, hO⟩; have HF : Hid (Fs w w1 h F w0 []) := Lib.hid ⟨⟨hO, fun x hx => by cases hx⟩, List.nodup_nil, fun x hx => by cases hx⟩; clear hO HB))
    | (go_at_call 9; ((with_reducible refine (down_any _ _ _).mono ?_); rintro e w2 ⟨rfl, hg2⟩; replace HF := Lib.hid (HF.out.grown hg2); clear hg2))
    | (go_at_call 10; ((with_reducible refine (up_any _ _ _).mono ?_); rintro e w2 ⟨rfl, hg2⟩; replace HF := Lib.hid (HF.out.grown hg2); clear hg2))
    | ((with_reducible refine alloc_fs (dst := some 3) HF.out ?_); intro w' B3 hf; replace HF : Hid (Fs _ w' h F w0 [(B3, tt.zn)]) := Lib.hid hf; clear hf)
    | ((with_reducible refine alloc_fs (dst := some 4) HF.out ?_); intro w' B4 hf; replace HF : Hid (Fs _ w' h F w0 [(B4, tt.zn), (B3, tt.zn)]) := Lib.hid hf; clear hf)
    | ((with_reducible refine store_fs HF.out 1 3 20 B3 tt.zn (dnn 6 0) ?_ ?_ ?_ ?_); (rfl); (rfl); (rfl); intro w' hf; replace HF : Hid (Fs _ w' h F w0 [(B4, tt.zn), (B3, dnn 6 0)]) := Lib.hid hf; clear hf)
    | ((with_reducible refine store_fs HF.out 0 4 21 B4 tt.zn (dnn 6 1) ?_ ?_ ?_ ?_); (rfl); (rfl); (rfl); intro w' hf; replace HF : Hid (Fs _ w' h F w0 [(B4, dnn 6 1), (B3, dnn 6 0)]) := Lib.hid hf; clear hf)
    | ((with_reducible refine fld_fs HF.out 1 _ 22 5 B3 (.int .u8 2) (dnn 6 0) (a1) ?_ ?_ ?_ ?_ ?_ ?_ ?_); (rfl); (rfl); (kernel_rfl); (rfl); (decide); (rfl); intro w' hf; replace HF : Hid (Fs _ w' h F w0 [(B4, dnn 6 1), (B3, a1)]) := Lib.hid hf; clear hf)
    | ((with_reducible refine fld_fs HF.out 1 _ 23 6 B3 (.bool true) (a1) (a0) ?_ ?_ ?_ ?_ ?_ ?_ ?_); (rfl); (rfl); (kernel_rfl); (rfl); (decide); (rfl); intro w' hf; replace HF : Hid (Fs _ w' h F w0 [(B4, dnn 6 1), (B3, a0)]) := Lib.hid hf; clear hf)
    | ((with_reducible refine fld_fs HF.out 0 _ 24 5 B4 (.int .u8 3) (dnn 6 1) (b1) ?_ ?_ ?_ ?_ ?_ ?_ ?_); (rfl); (rfl); (kernel_rfl); (rfl); (decide); (rfl); intro w' hf; replace HF : Hid (Fs _ w' h F w0 [(B4, b1), (B3, a0)]) := Lib.hid hf; clear hf)
    | ((with_reducible refine fld_fs HF.out 0 _ 25 6 B4 (.bool true) (b1) (b2) ?_ ?_ ?_ ?_ ?_ ?_ ?_); (rfl); (rfl); (kernel_rfl); (rfl); (decide); (rfl); intro w' hf; replace HF : Hid (Fs _ w' h F w0 [(B4, b2), (B3, a0)]) := Lib.hid hf; clear hf)
    | ((with_reducible refine fld_fs HF.out 0 _ 27 10 B4 (.int .u32 77) (b2) (b0) ?_ ?_ ?_ ?_ ?_ ?_ ?_); (rfl); (rfl); (kernel_rfl); (rfl); (decide); (rfl); intro w' hf; replace HF : Hid (Fs _ w' h F w0 [(B4, b0), (B3, a0)]) := Lib.hid hf; clear hf)
    | ((with_reducible refine alloc_fs (dst := some 5) HF.out ?_); intro w' B5 hf; replace HF : Hid (Fs _ w' h F w0 [(B5, tt.zn), (B4, b0), (B3, a0)]) := Lib.hid hf; clear hf)
    | ((with_reducible refine alloc_fs (dst := some 6) HF.out ?_); intro w' B6 hf; replace HF : Hid (Fs _ w' h F w0 [(B6, tt.zn), (B5, tt.zn), (B4, b0), (B3, a0)]) := Lib.hid hf; clear hf)
    | ((with_reducible refine alloc_fs (dst := some 7) HF.out ?_); intro w' B7 hf; replace HF : Hid (Fs _ w' h F w0 [(B7, tt.zn), (B6, tt.zn), (B5, tt.zn), (B4, b0), (B3, a0)]) := Lib.hid hf; clear hf)
    | ((with_reducible refine alloc_fs (dst := some 8) HF.out ?_); intro w' B8 hf; replace HF : Hid (Fs _ w' h F w0 [(B8, tt.zn), (B7, tt.zn), (B6, tt.zn), (B5, tt.zn), (B4, b0), (B3, a0)]) := Lib.hid hf; clear hf)
    | ((with_reducible refine store_fs HF.out 3 5 28 B5 tt.zn (upn 9 0) ?_ ?_ ?_ ?_); (rfl); (rfl); (rfl); intro w' hf; replace HF : Hid (Fs _ w' h F w0 [(B8, tt.zn), (B7, tt.zn), (B6, tt.zn), (B5, upn 9 0), (B4, b0), (B3, a0)]) := Lib.hid hf; clear hf)
    | ((with_reducible refine store_fs HF.out 2 6 29 B6 tt.zn (upn 10 1) ?_ ?_ ?_ ?_); (rfl); (rfl); (rfl); intro w' hf; replace HF : Hid (Fs _ w' h F w0 [(B8, tt.zn), (B7, tt.zn), (B6, upn 10 1), (B5, upn 9 0), (B4, b0), (B3, a0)]) := Lib.hid hf; clear hf)
    | ((with_reducible refine store_fs HF.out 1 7 30 B7 tt.zn (dnn 7 0) ?_ ?_ ?_ ?_); (rfl); (rfl); (rfl); intro w' hf; replace HF : Hid (Fs _ w' h F w0 [(B8, tt.zn), (B7, dnn 7 0), (B6, upn 10 1), (B5, upn 9 0), (B4, b0), (B3, a0)]) := Lib.hid hf; clear hf)
    | ((with_reducible refine store_fs HF.out 0 8 31 B8 tt.zn (dnn 4 1) ?_ ?_ ?_ ?_); (rfl); (rfl); (rfl); intro w' hf; replace HF : Hid (Fs _ w' h F w0 [(B8, dnn 4 1), (B7, dnn 7 0), (B6, upn 10 1), (B5, upn 9 0), (B4, b0), (B3, a0)]) := Lib.hid hf; clear hf))
  obtain ⟨t9, mm9, HT9, hagg9, hsize9, hld9⟩ := nameB
  rw [HT9.out]
  refine wp_region_held_drew (S := fun w' => w'.heap[B4]? = some (.cells (na b0) 31 (0, 0))) (by kernel_rfl) ((HF.out.grown (tt.grown_drew (grown_refl _ _))).fl.vars (B4, b0) (by simp)).1 (fun hHeld => ?_)
  replace HF := Lib.hid (HF.out.grown (tt.grown_drew (grown_refl _ _)))
  generalize World.drew _ = wd at hHeld HF ⊢
  refine wpAnyH_take (i := 0) (oi := ⟨some 32, Op.fieldAddr 31 (Operand.tmp 4) 8, _, _, _, _⟩) (v := ?v1) rfl (by kernel_rfl) (by kernel_rfl) (by kernel_rfl) (fun _ _ _ h => h) (Or.inl ⟨by rfl, ?hy1⟩) (by assumption) ?rest1
  case hy1 => ((intro w0 hSw; go_simp); try (with_reducible rfl))
  try simp only [Act.put, lay1, lay2, lay3]
  refine wpAnyH_take (i := 1) (oi := ⟨some 33, Op.load t9 (Operand.tmp 32), _, _, _, _⟩) (v := ?v2) rfl (by kernel_rfl) (by kernel_rfl) (by kernel_rfl) (fun _ _ _ h => h) (Or.inl ⟨by rfl, ?hy2⟩) (by assumption) ?rest2
  case hy2 => ((intro w0 hSw; have hs1 := hld9 B4 b0 w0 (tt.range_of hSw); go_simp); try (with_reducible rfl))
  try simp only [Act.put, lay1, lay2, lay3]
  refine wpAnyH_take (i := 2) (oi := ⟨some 34, Op.fieldAddr 31 (Operand.tmp 5) 6, _, _, _, _⟩) (v := ?v3) rfl (by kernel_rfl) (by kernel_rfl) (by kernel_rfl) (fun _ _ _ h => h) (Or.inl ⟨by rfl, ?hy3⟩) (by assumption) ?rest3
  case hy3 => ((intro w0 hSw; go_simp); try (with_reducible rfl))
  try simp only [Act.put, lay1, lay2, lay3]
  refine wpAnyH_ready (rs := [3]) (by kernel_rfl) (by simp) ?_
  refine AllReadyH.cons (o := ⟨none, Op.store 4 (Operand.tmp 34) (Operand.const (Value.bool true)), _, _, _, _⟩) rfl (fun K hK => ?_) AllReadyH.nil
  refine fire_fld rfl _ 34 (.const (.bool true)) rfl HF.out 3 6 B5 (.bool true) ([.bool true]) (upn 9 0) (ack1) rfl rfl rfl (by kernel_rfl) rfl (fun v hv => by simp at hv; subst hv; rfl) (by decide) rfl (fun w' hf => ?_)
  replace HF := Lib.hid hf
  clear hf
  refine hK.out _ _ (HF.out.fl.vars (B4, b0) (by simp)).1 (fun hHeld => ?_)
  clear hK K
  try simp only [Act.put, lay1, lay2, lay3]
  refine wpAnyH_take (i := 4) (oi := ⟨some 35, Op.fieldAddr 31 (Operand.tmp 5) 8, _, _, _, _⟩) (v := ?v4) rfl (by kernel_rfl) (by kernel_rfl) (by kernel_rfl) (fun _ _ _ h => h) (Or.inl ⟨by rfl, ?hy4⟩) (by assumption) ?rest4
  case hy4 => ((intro w0 hSw; go_simp); try (with_reducible rfl))
  try simp only [Act.put, lay1, lay2, lay3]
  refine wpAnyH_ready (rs := [5]) (by kernel_rfl) (by simp) ?_
  refine AllReadyH.cons (o := ⟨none, Op.store 29 (Operand.tmp 35) (Operand.tmp 33), _, _, _, _⟩) rfl (fun K hK => ?_) AllReadyH.nil
  refine fire_fld rfl _ 35 (.tmp 33) rfl HF.out 3 8 B5 (.agg (pp.row b0.d)) (b0.d.map tt.U) (ack1) (ack0) rfl rfl rfl (by kernel_rfl) rfl (fun v hv => by obtain ⟨d, _, rfl⟩ := List.mem_map.1 hv; rfl) (by decide) rfl (fun w' hf => ?_)
  replace HF := Lib.hid hf
  clear hf
  refine hK.out _ _ (HF.out.fl.vars (B4, b0) (by simp)).1 (fun hHeld => ?_)
  clear hK K
  try simp only [Act.put, lay1, lay2, lay3]
  refine wpAnyH_take (i := 6) (oi := ⟨some 36, Op.fieldAddr 31 (Operand.tmp 6) 4, _, _, _, _⟩) (v := ?v5) rfl (by kernel_rfl) (by kernel_rfl) (by kernel_rfl) (fun _ _ _ h => h) (Or.inl ⟨by rfl, ?hy5⟩) (by assumption) ?rest5
  case hy5 => ((intro w0 hSw; go_simp); try (with_reducible rfl))
  try simp only [Act.put, lay1, lay2, lay3]
  refine wpAnyH_ready (rs := [7]) (by kernel_rfl) (by simp) ?_
  refine AllReadyH.cons (o := ⟨none, Op.store 25 (Operand.tmp 36) (Operand.const (Value.int IntKind.u64 7)), _, _, _, _⟩) rfl (fun K hK => ?_) AllReadyH.nil
  refine fire_fld rfl _ 36 (.const (.int .u64 7)) rfl HF.out 2 4 B6 (.int .u64 7) ([.int .u64 7]) (upn 10 1) (ref0) rfl rfl rfl (by kernel_rfl) rfl (fun v hv => by simp at hv; subst hv; rfl) (by decide) rfl (fun w' hf => ?_)
  replace HF := Lib.hid hf
  clear hf
  refine hK.out _ _ (HF.out.fl.vars (B4, b0) (by simp)).1 (fun hHeld => ?_)
  clear hK K
  try simp only [Act.put, lay1, lay2, lay3]
  refine wpAnyH_take (i := 8) (oi := ⟨some 37, Op.fieldAddr 31 (Operand.tmp 7) 4, _, _, _, _⟩) (v := ?v6) rfl (by kernel_rfl) (by kernel_rfl) (by kernel_rfl) (fun _ _ _ h => h) (Or.inl ⟨by rfl, ?hy6⟩) (by assumption) ?rest6
  case hy6 => ((intro w0 hSw; go_simp); try (with_reducible rfl))
  try simp only [Act.put, lay1, lay2, lay3]
  refine wpAnyH_ready (rs := [9]) (by kernel_rfl) (by simp) ?_
  refine AllReadyH.cons (o := ⟨none, Op.store 25 (Operand.tmp 37) (Operand.const (Value.int IntKind.u64 7)), _, _, _, _⟩) rfl (fun K hK => ?_) AllReadyH.nil
  refine fire_fld rfl _ 37 (.const (.int .u64 7)) rfl HF.out 1 4 B7 (.int .u64 7) ([.int .u64 7]) (dnn 7 0) (nack0) rfl rfl rfl (by kernel_rfl) rfl (fun v hv => by simp at hv; subst hv; rfl) (by decide) rfl (fun w' hf => ?_)
  replace HF := Lib.hid hf
  clear hf
  refine hK.out _ _ (HF.out.fl.vars (B4, b0) (by simp)).1 (fun hHeld => ?_)
  clear hK K
  try simp only [Act.put, lay1, lay2, lay3]
  refine wpAnyH_done (by kernel_rfl) ?_ _
  replace HF := Lib.hid (HF.out.fl : Fl w _ h F w0 [(B8, dnn 4 1), (B7, nack0), (B6, ref0), (B5, ack0), (B4, b0), (B3, a0)])
  obtain ⟨t', mm, HTT, hagg, hsize, hld⟩ := tt.named
  have HLD := Lib.hid hld
  have hfo := fold_note
  have hsz := tt.na_size
  clear hld hld9 hHeld
  go_wp2_with fail
  rw [HTT.out]
  refine wp_region_held_drew (S := fun w' => ∀ x ∈ [(B8, dnn 4 1), (B7, nack0), (B6, ref0), (B5, ack0), (B4, b0), (B3, a0)], w'.heap[x.1]? = some (.cells (na x.2) 31 (0, 0))) (by kernel_rfl) (by first | exact fun x hx => ((HF.out.grown (tt.grown_drew (grown_refl _ _))).vars x hx).1 | exact fun x hx => ((HF.out.grown (tt.grown_drew (grown_refl _ _))).vars x (.tail _ hx)).1 | exact fun x hx => ((HF.out.grown (tt.grown_drew (grown_refl _ _))).vars x (.tail _ (.tail _ hx))).1 | exact fun x hx => ((HF.out.grown (tt.grown_drew (grown_refl _ _))).vars x (.tail _ (.tail _ (.tail _ hx)))).1 | exact fun x hx => ((HF.out.grown (tt.grown_drew (grown_refl _ _))).vars x (.tail _ (.tail _ (.tail _ (.tail _ hx))))).1 | exact fun x hx => ((HF.out.grown (tt.grown_drew (grown_refl _ _))).vars x (.tail _ (.tail _ (.tail _ (.tail _ (.tail _ hx)))))).1) (fun hHeld => ?_)
  replace HF := Lib.hid (HF.out.grown (tt.grown_drew (grown_refl _ _)))
  generalize World.drew _ = wd0 at hHeld HF ⊢
  refine wpAnyH_ready (rs := [0]) (by kernel_rfl) (by simp) ?_
  refine AllReadyH.cons (o := ⟨some 38, Op.call { callee := Callee.value (Operand.func 11), args := #[], argTypes := #[] }, _, _, _, _⟩) rfl (fun K hK => ?_) AllReadyH.nil
  go_simp
  (with_reducible refine (HW.out _ HF.out.own.old).mono ?_); rintro e wn1 ⟨rfl, hg⟩; replace HF := Lib.hid (HF.out.grown hg); clear hg
  go_wp2_with fail
  refine hK.out _ _ (by first | exact fun x hx => (HF.out.vars x hx).1 | exact fun x hx => (HF.out.vars x (.tail _ hx)).1 | exact fun x hx => (HF.out.vars x (.tail _ (.tail _ hx))).1 | exact fun x hx => (HF.out.vars x (.tail _ (.tail _ (.tail _ hx)))).1 | exact fun x hx => (HF.out.vars x (.tail _ (.tail _ (.tail _ (.tail _ hx))))).1 | exact fun x hx => (HF.out.vars x (.tail _ (.tail _ (.tail _ (.tail _ (.tail _ hx)))))).1) (fun hHeld => ?_)
  clear hK K
  try simp only [Act.put, lay1, lay2, lay3]
  refine wpAnyH_take (i := 1) (oi := ⟨some 39, Op.unOp UnOp.not 4 (Operand.tmp 38), _, _, _, _⟩) (v := ?v7) rfl (by kernel_rfl) (by kernel_rfl) (by kernel_rfl) (fun _ _ _ h => h) (Or.inl ⟨by rfl, ?hy7⟩) (by assumption) ?rest7
  case hy7 => ((intro w0 hSw; go_simp); try (with_reducible rfl))
  try simp only [Act.put, lay1, lay2, lay3]
  refine wpAnyH_take (i := 2) (oi := ⟨some 40, Op.move (Operand.tmp 39), _, _, _, _⟩) (v := ?v8) rfl (by kernel_rfl) (by kernel_rfl) (by kernel_rfl) (fun _ _ _ h => h) (Or.inl ⟨by rfl, ?hy8⟩) (by assumption) ?rest8
  case hy8 => ((intro w0 hSw; go_simp); try (with_reducible rfl))
  try simp only [Act.put, lay1, lay2, lay3]
  refine wpAnyH_take (i := 3) (oi := ⟨some 41, Op.move (Operand.tmp 2), _, _, _, _⟩) (v := ?v9) rfl (by kernel_rfl) (by kernel_rfl) (by kernel_rfl) (fun _ _ _ h => h) (Or.inl ⟨by rfl, ?hy9⟩) (by assumption) ?rest9
  case hy9 => ((intro w0 hSw; go_simp); try (with_reducible rfl))
  try simp only [Act.put, lay1, lay2, lay3]
  refine wpAnyH_take (i := 4) (oi := ⟨some 42, Op.unOp UnOp.not 4 (Operand.tmp 41), _, _, _, _⟩) (v := ?v10) rfl (by kernel_rfl) (by kernel_rfl) (by kernel_rfl) (fun _ _ _ h => h) (Or.inl ⟨by rfl, ?hy10⟩) (by assumption) ?rest10
  case hy10 => ((intro w0 hSw; go_simp); try (with_reducible rfl))
  try simp only [Act.put, lay1, lay2, lay3]
  refine wpAnyH_take (i := 5) (oi := ⟨some 43, Op.pick (Operand.tmp 40) (Operand.const (Value.bool true)) (Operand.tmp 42), _, _, _, _⟩) (v := ?v11) rfl (by kernel_rfl) (by kernel_rfl) (by kernel_rfl) (fun _ _ _ h => h) (Or.inl ⟨by rfl, ?hy11⟩) (by assumption) ?rest11
  case hy11 => ((intro w0 hSw; go_simp); try (with_reducible rfl))
  try simp only [Act.put, lay1, lay2, lay3]
  refine wpAnyH_take (i := 6) (oi := ⟨some 44, Op.move (Operand.tmp 43), _, _, _, _⟩) (v := ?v12) rfl (by kernel_rfl) (by kernel_rfl) (by kernel_rfl) (fun _ _ _ h => h) (Or.inl ⟨by rfl, ?hy12⟩) (by assumption) ?rest12
  case hy12 => ((intro w0 hSw; go_simp); try (with_reducible rfl))
  try simp only [Act.put, lay1, lay2, lay3]
  refine wpAnyH_take (i := 7) (oi := ⟨some 45, Op.move (Operand.tmp 1), _, _, _, _⟩) (v := ?v13) rfl (by kernel_rfl) (by kernel_rfl) (by kernel_rfl) (fun _ _ _ h => h) (Or.inl ⟨by rfl, ?hy13⟩) (by assumption) ?rest13
  case hy13 => ((intro w0 hSw; go_simp); try (with_reducible rfl))
  try simp only [Act.put, lay1, lay2, lay3]
  refine wpAnyH_take (i := 9) (oi := ⟨some 47, Op.load t' (Operand.tmp 3), _, _, _, _⟩) (v := ?v14) rfl (by kernel_rfl) (by kernel_rfl) (by kernel_rfl) (fun _ _ _ h => h) (Or.inl ⟨by rfl, ?hy14⟩) (by assumption) ?rest14
  case hy14 => ((intro w0 hSw; have hs1 := HLD.out B3 (a0) w0 (tt.range_of (hSw (B3, a0) (by simp))); go_simp); try (with_reducible rfl))
  try simp only [Act.put, lay1, lay2, lay3]
  refine wpAnyH_ready (rs := [8, 10]) (by kernel_rfl) (by simp) ?_
  refine AllReadyH.cons (o := ⟨some 46, Op.call { callee := Callee.value (Operand.func 10), args := #[Operand.const (Value.int IntKind.u8 1), Operand.const (Value.int IntKind.i64 0)], argTypes := #[5, 3] }, _, _, _, _⟩) rfl (fun K hK => ?_) (AllReadyH.cons (o := ⟨some 48, Op.buildSlice 42 1 #[(0, (Operand.tmp 47))], _, _, _, _⟩) rfl (fun K hK => ?_) AllReadyH.nil)
  · skip
    go_simp
    (with_reducible refine (up_any 1 0 _).mono ?_); rintro e wn2 ⟨rfl, hg⟩; replace HF := Lib.hid (HF.out.grown hg); clear hg
    go_wp2_with fail
    refine hK.out _ _ (by first | exact fun x hx => (HF.out.vars x hx).1 | exact fun x hx => (HF.out.vars x (.tail _ hx)).1 | exact fun x hx => (HF.out.vars x (.tail _ (.tail _ hx))).1 | exact fun x hx => (HF.out.vars x (.tail _ (.tail _ (.tail _ hx)))).1 | exact fun x hx => (HF.out.vars x (.tail _ (.tail _ (.tail _ (.tail _ hx))))).1 | exact fun x hx => (HF.out.vars x (.tail _ (.tail _ (.tail _ (.tail _ (.tail _ hx)))))).1) (fun hHeld => ?_)
    clear hK K
    try simp only [Act.put, lay1, lay2, lay3]
    refine wpAnyH_ready (rs := [10]) (by kernel_rfl) (by simp) ?_
    refine AllReadyH.cons (o := ⟨some 48, Op.buildSlice 42 1 #[(0, (Operand.tmp 47))], _, _, _, _⟩) rfl (fun K hK => ?_) AllReadyH.nil
    go_simp
    obtain ⟨wn3, hn⟩ : ∃ w', wn2.alloc (.cells (na a0) 31) = w' := ⟨_, rfl⟩
    obtain ⟨S1, hm⟩ : ∃ B, wn2.heap.size = B := ⟨_, rfl⟩
    replace HF := Lib.hid (HF.out.var (w2 := wn3) (B := S1) (x := a0) (by rw [← hn]; exact grown_alloc (grown_refl _ _) _) (Nat.le_of_eq hm) (by rw [← hn, ← hm]; exact heap_alloc_new _ _))
    rw [hn, hm]
    clear hn hm
    refine hK.out _ _ (by first | exact fun x hx => (HF.out.vars x hx).1 | exact fun x hx => (HF.out.vars x (.tail _ hx)).1 | exact fun x hx => (HF.out.vars x (.tail _ (.tail _ hx))).1 | exact fun x hx => (HF.out.vars x (.tail _ (.tail _ (.tail _ hx)))).1 | exact fun x hx => (HF.out.vars x (.tail _ (.tail _ (.tail _ (.tail _ hx))))).1 | exact fun x hx => (HF.out.vars x (.tail _ (.tail _ (.tail _ (.tail _ (.tail _ hx)))))).1) (fun hHeld => ?_)
    clear hK K
    try simp only [Act.put, lay1, lay2, lay3]
    refine wpAnyH_ready (rs := [11]) (by kernel_rfl) (by simp) ?_
    refine AllReadyH.cons (o := ⟨some 49, Op.call { callee := Callee.value (Operand.func 12), args := #[(Operand.tmp 45), (Operand.tmp 46), (Operand.tmp 48)], argTypes := #[22, 31, 42] }, _, _, _, _⟩) rfl (fun K hK => ?_) AllReadyH.nil
    go_simp
    (with_reducible refine (HF.out.one HT.out (upn 1 0) (wup _ _) S1 a0 (by simp) g1).mono ?_); rintro e wn4 ⟨rfl, Fwn4, hf⟩; replace HF : Hid (Fl w wn4 h Fwn4 w1' _) := Lib.hid hf; clear hf
    go_wp2_with fail
    refine hK.out _ _ (by first | exact fun x hx => (HF.out.vars x hx).1 | exact fun x hx => (HF.out.vars x (.tail _ hx)).1 | exact fun x hx => (HF.out.vars x (.tail _ (.tail _ hx))).1 | exact fun x hx => (HF.out.vars x (.tail _ (.tail _ (.tail _ hx)))).1 | exact fun x hx => (HF.out.vars x (.tail _ (.tail _ (.tail _ (.tail _ hx))))).1 | exact fun x hx => (HF.out.vars x (.tail _ (.tail _ (.tail _ (.tail _ (.tail _ hx)))))).1) (fun hHeld => ?_)
    clear hK K
    try simp only [Act.put, lay1, lay2, lay3]
    refine wpAnyH_take (i := 12) (oi := ⟨some 50, Op.unOp UnOp.not 4 (Operand.tmp 49), _, _, _, _⟩) (v := ?v15) rfl (by kernel_rfl) (by kernel_rfl) (by kernel_rfl) (fun _ _ _ h => h) (Or.inl ⟨by rfl, ?hy15⟩) (by assumption) ?rest15
    case hy15 => ((intro w0 hSw; go_simp); try (with_reducible rfl))
    try simp only [Act.put, lay1, lay2, lay3]
    refine wpAnyH_take (i := 13) (oi := ⟨some 51, Op.pick (Operand.tmp 44) (Operand.const (Value.bool true)) (Operand.tmp 50), _, _, _, _⟩) (v := ?v16) rfl (by kernel_rfl) (by kernel_rfl) (by kernel_rfl) (fun _ _ _ h => h) (Or.inl ⟨by rfl, ?hy16⟩) (by assumption) ?rest16
    case hy16 => ((intro w0 hSw; go_simp); try (with_reducible rfl))
    try simp only [Act.put, lay1, lay2, lay3]
    refine wpAnyH_take (i := 14) (oi := ⟨some 52, Op.move (Operand.tmp 51), _, _, _, _⟩) (v := ?v17) rfl (by kernel_rfl) (by kernel_rfl) (by kernel_rfl) (fun _ _ _ h => h) (Or.inl ⟨by rfl, ?hy17⟩) (by assumption) ?rest17
    case hy17 => ((intro w0 hSw; go_simp); try (with_reducible rfl))
    try simp only [Act.put, lay1, lay2, lay3]
    refine wpAnyH_take (i := 15) (oi := ⟨some 53, Op.move (Operand.tmp 1), _, _, _, _⟩) (v := ?v18) rfl (by kernel_rfl) (by kernel_rfl) (by kernel_rfl) (fun _ _ _ h => h) (Or.inl ⟨by rfl, ?hy18⟩) (by assumption) ?rest18
    case hy18 => ((intro w0 hSw; go_simp); try (with_reducible rfl))
    try simp only [Act.put, lay1, lay2, lay3]
    refine wpAnyH_ready (rs := [16]) (by kernel_rfl) (by simp) ?_
    refine AllReadyH.cons (o := ⟨some 54, Op.call { callee := Callee.value (Operand.func 10), args := #[Operand.const (Value.int IntKind.u8 2), Operand.const (Value.int IntKind.i64 1)], argTypes := #[5, 3] }, _, _, _, _⟩) rfl (fun K hK => ?_) AllReadyH.nil
    go_simp
    (with_reducible refine (up_any 2 1 _).mono ?_); rintro e wn5 ⟨rfl, hg⟩; replace HF := Lib.hid (HF.out.grown hg); clear hg
    go_wp2_with fail
    refine hK.out _ _ (by first | exact fun x hx => (HF.out.vars x hx).1 | exact fun x hx => (HF.out.vars x (.tail _ hx)).1 | exact fun x hx => (HF.out.vars x (.tail _ (.tail _ hx))).1 | exact fun x hx => (HF.out.vars x (.tail _ (.tail _ (.tail _ hx)))).1 | exact fun x hx => (HF.out.vars x (.tail _ (.tail _ (.tail _ (.tail _ hx))))).1 | exact fun x hx => (HF.out.vars x (.tail _ (.tail _ (.tail _ (.tail _ (.tail _ hx)))))).1) (fun hHeld => ?_)
    clear hK K
    try simp only [Act.put, lay1, lay2, lay3]
    refine wpAnyH_ready (rs := [17]) (by kernel_rfl) (by simp) ?_
    refine AllReadyH.cons (o := ⟨some 55, Op.call { callee := Callee.value (Operand.func 12), args := #[(Operand.tmp 53), (Operand.tmp 54), Operand.const (Value.slice none 0 0)], argTypes := #[22, 31, 42] }, _, _, _, _⟩) rfl (fun K hK => ?_) AllReadyH.nil
    go_simp
    (with_reducible refine (HF.out.none HT.out (upn 2 1) (wup _ _) g2).mono ?_); rintro e wn6 ⟨rfl, Fwn6, hf⟩; replace HF : Hid (Fl w wn6 h Fwn6 w2' _) := Lib.hid hf; clear hf
    go_wp2_with fail
    refine hK.out _ _ (by first | exact fun x hx => (HF.out.vars x hx).1 | exact fun x hx => (HF.out.vars x (.tail _ hx)).1 | exact fun x hx => (HF.out.vars x (.tail _ (.tail _ hx))).1 | exact fun x hx => (HF.out.vars x (.tail _ (.tail _ (.tail _ hx)))).1 | exact fun x hx => (HF.out.vars x (.tail _ (.tail _ (.tail _ (.tail _ hx))))).1 | exact fun x hx => (HF.out.vars x (.tail _ (.tail _ (.tail _ (.tail _ (.tail _ hx)))))).1) (fun hHeld => ?_)
    clear hK K
    try simp only [Act.put, lay1, lay2, lay3]
    refine wpAnyH_take (i := 18) (oi := ⟨some 56, Op.unOp UnOp.not 4 (Operand.tmp 55), _, _, _, _⟩) (v := ?v19) rfl (by kernel_rfl) (by kernel_rfl) (by kernel_rfl) (fun _ _ _ h => h) (Or.inl ⟨by rfl, ?hy19⟩) (by assumption) ?rest19
    case hy19 => ((intro w0 hSw; go_simp); try (with_reducible rfl))
    try simp only [Act.put, lay1, lay2, lay3]
    refine wpAnyH_take (i := 19) (oi := ⟨some 57, Op.pick (Operand.tmp 52) (Operand.const (Value.bool true)) (Operand.tmp 56), _, _, _, _⟩) (v := ?v20) rfl (by kernel_rfl) (by kernel_rfl) (by kernel_rfl) (fun _ _ _ h => h) (Or.inl ⟨by rfl, ?hy20⟩) (by assumption) ?rest20
    case hy20 => ((intro w0 hSw; go_simp); try (with_reducible rfl))
    try simp only [Act.put, lay1, lay2, lay3]
    refine wpAnyH_take (i := 20) (oi := ⟨some 58, Op.move (Operand.tmp 57), _, _, _, _⟩) (v := ?v21) rfl (by kernel_rfl) (by kernel_rfl) (by kernel_rfl) (fun _ _ _ h => h) (Or.inl ⟨by rfl, ?hy21⟩) (by assumption) ?rest21
    case hy21 => ((intro w0 hSw; go_simp); try (with_reducible rfl))
    try simp only [Act.put, lay1, lay2, lay3]
    refine wpAnyH_take (i := 21) (oi := ⟨some 59, Op.move (Operand.tmp 1), _, _, _, _⟩) (v := ?v22) rfl (by kernel_rfl) (by kernel_rfl) (by kernel_rfl) (fun _ _ _ h => h) (Or.inl ⟨by rfl, ?hy22⟩) (by assumption) ?rest22
    case hy22 => ((intro w0 hSw; go_simp); try (with_reducible rfl))
    try simp only [Act.put, lay1, lay2, lay3]
    refine wpAnyH_ready (rs := [22]) (by kernel_rfl) (by simp) ?_
    refine AllReadyH.cons (o := ⟨some 60, Op.call { callee := Callee.value (Operand.func 10), args := #[Operand.const (Value.int IntKind.u8 11), Operand.const (Value.int IntKind.i64 0)], argTypes := #[5, 3] }, _, _, _, _⟩) rfl (fun K hK => ?_) AllReadyH.nil
    go_simp
    (with_reducible refine (up_any 11 0 _).mono ?_); rintro e wn7 ⟨rfl, hg⟩; replace HF := Lib.hid (HF.out.grown hg); clear hg
    go_wp2_with fail
    refine hK.out _ _ (by first | exact fun x hx => (HF.out.vars x hx).1 | exact fun x hx => (HF.out.vars x (.tail _ hx)).1 | exact fun x hx => (HF.out.vars x (.tail _ (.tail _ hx))).1 | exact fun x hx => (HF.out.vars x (.tail _ (.tail _ (.tail _ hx)))).1 | exact fun x hx => (HF.out.vars x (.tail _ (.tail _ (.tail _ (.tail _ hx))))).1 | exact fun x hx => (HF.out.vars x (.tail _ (.tail _ (.tail _ (.tail _ (.tail _ hx)))))).1) (fun hHeld => ?_)
    clear hK K
    try simp only [Act.put, lay1, lay2, lay3]
    refine wpAnyH_ready (rs := [23]) (by kernel_rfl) (by simp) ?_
    refine AllReadyH.cons (o := ⟨some 61, Op.call { callee := Callee.value (Operand.func 9), args := #[Operand.const (Value.int IntKind.u8 5), Operand.const (Value.int IntKind.i64 0)], argTypes := #[5, 3] }, _, _, _, _⟩) rfl (fun K hK => ?_) AllReadyH.nil
    go_simp
    (with_reducible refine (down_any 5 0 _).mono ?_); rintro e wn8 ⟨rfl, hg⟩; replace HF := Lib.hid (HF.out.grown hg); clear hg
    go_wp2_with fail
    refine hK.out _ _ (by first | exact fun x hx => (HF.out.vars x hx).1 | exact fun x hx => (HF.out.vars x (.tail _ hx)).1 | exact fun x hx => (HF.out.vars x (.tail _ (.tail _ hx))).1 | exact fun x hx => (HF.out.vars x (.tail _ (.tail _ (.tail _ hx)))).1 | exact fun x hx => (HF.out.vars x (.tail _ (.tail _ (.tail _ (.tail _ hx))))).1 | exact fun x hx => (HF.out.vars x (.tail _ (.tail _ (.tail _ (.tail _ (.tail _ hx)))))).1) (fun hHeld => ?_)
    clear hK K
    try simp only [Act.put, lay1, lay2, lay3]
    refine wpAnyH_ready (rs := [24]) (by kernel_rfl) (by simp) ?_
    refine AllReadyH.cons (o := ⟨some 62, Op.buildSlice 42 1 #[(0, (Operand.tmp 61))], _, _, _, _⟩) rfl (fun K hK => ?_) AllReadyH.nil
    go_simp
    obtain ⟨wn9, hn⟩ : ∃ w', wn8.alloc (.cells (na (dnn 5 0)) 31) = w' := ⟨_, rfl⟩
    obtain ⟨S2, hm⟩ : ∃ B, wn8.heap.size = B := ⟨_, rfl⟩
    replace HF := Lib.hid (HF.out.var (w2 := wn9) (B := S2) (x := (dnn 5 0)) (by rw [← hn]; exact grown_alloc (grown_refl _ _) _) (Nat.le_of_eq hm) (by rw [← hn, ← hm]; exact heap_alloc_new _ _))
    rw [hn, hm]
    clear hn hm
    refine hK.out _ _ (by first | exact fun x hx => (HF.out.vars x hx).1 | exact fun x hx => (HF.out.vars x (.tail _ hx)).1 | exact fun x hx => (HF.out.vars x (.tail _ (.tail _ hx))).1 | exact fun x hx => (HF.out.vars x (.tail _ (.tail _ (.tail _ hx)))).1 | exact fun x hx => (HF.out.vars x (.tail _ (.tail _ (.tail _ (.tail _ hx))))).1 | exact fun x hx => (HF.out.vars x (.tail _ (.tail _ (.tail _ (.tail _ (.tail _ hx)))))).1) (fun hHeld => ?_)
    clear hK K
    try simp only [Act.put, lay1, lay2, lay3]
    refine wpAnyH_ready (rs := [25]) (by kernel_rfl) (by simp) ?_
    refine AllReadyH.cons (o := ⟨some 63, Op.call { callee := Callee.value (Operand.func 12), args := #[(Operand.tmp 59), (Operand.tmp 60), (Operand.tmp 62)], argTypes := #[22, 31, 42] }, _, _, _, _⟩) rfl (fun K hK => ?_) AllReadyH.nil
    go_simp
    (with_reducible refine (HF.out.one HT.out (upn 11 0) (wup _ _) S2 (dnn 5 0) (by simp) g3).mono ?_); rintro e wn10 ⟨rfl, Fwn10, hf⟩; replace HF : Hid (Fl w wn10 h Fwn10 w3' _) := Lib.hid hf; clear hf
    go_wp2_with fail
    refine hK.out _ _ (by first | exact fun x hx => (HF.out.vars x hx).1 | exact fun x hx => (HF.out.vars x (.tail _ hx)).1 | exact fun x hx => (HF.out.vars x (.tail _ (.tail _ hx))).1 | exact fun x hx => (HF.out.vars x (.tail _ (.tail _ (.tail _ hx)))).1 | exact fun x hx => (HF.out.vars x (.tail _ (.tail _ (.tail _ (.tail _ hx))))).1 | exact fun x hx => (HF.out.vars x (.tail _ (.tail _ (.tail _ (.tail _ (.tail _ hx)))))).1) (fun hHeld => ?_)
    clear hK K
    try simp only [Act.put, lay1, lay2, lay3]
    refine wpAnyH_take (i := 26) (oi := ⟨some 64, Op.unOp UnOp.not 4 (Operand.tmp 63), _, _, _, _⟩) (v := ?v23) rfl (by kernel_rfl) (by kernel_rfl) (by kernel_rfl) (fun _ _ _ h => h) (Or.inl ⟨by rfl, ?hy23⟩) (by assumption) ?rest23
    case hy23 => ((intro w0 hSw; go_simp); try (with_reducible rfl))
    try simp only [Act.put, lay1, lay2, lay3]
    refine wpAnyH_take (i := 27) (oi := ⟨some 65, Op.pick (Operand.tmp 58) (Operand.const (Value.bool true)) (Operand.tmp 64), _, _, _, _⟩) (v := ?v24) rfl (by kernel_rfl) (by kernel_rfl) (by kernel_rfl) (fun _ _ _ h => h) (Or.inl ⟨by rfl, ?hy24⟩) (by assumption) ?rest24
    case hy24 => ((intro w0 hSw; go_simp); try (with_reducible rfl))
    try simp only [Act.put, lay1, lay2, lay3]
    refine wpAnyH_take (i := 28) (oi := ⟨some 66, Op.move (Operand.tmp 65), _, _, _, _⟩) (v := ?v25) rfl (by kernel_rfl) (by kernel_rfl) (by kernel_rfl) (fun _ _ _ h => h) (Or.inl ⟨by rfl, ?hy25⟩) (by assumption) ?rest25
    case hy25 => ((intro w0 hSw; go_simp); try (with_reducible rfl))
    try simp only [Act.put, lay1, lay2, lay3]
    refine wpAnyH_take (i := 29) (oi := ⟨some 67, Op.move (Operand.tmp 1), _, _, _, _⟩) (v := ?v26) rfl (by kernel_rfl) (by kernel_rfl) (by kernel_rfl) (fun _ _ _ h => h) (Or.inl ⟨by rfl, ?hy26⟩) (by assumption) ?rest26
    case hy26 => ((intro w0 hSw; go_simp); try (with_reducible rfl))
    try simp only [Act.put, lay1, lay2, lay3]
    refine wpAnyH_take (i := 30) (oi := ⟨some 68, Op.load t' (Operand.tmp 5), _, _, _, _⟩) (v := ?v27) rfl (by kernel_rfl) (by kernel_rfl) (by kernel_rfl) (fun _ _ _ h => h) (Or.inl ⟨by rfl, ?hy27⟩) (by assumption) ?rest27
    case hy27 => ((intro w0 hSw; have hs1 := HLD.out B5 (ack0) w0 (tt.range_of (hSw (B5, ack0) (by simp))); go_simp); try (with_reducible rfl))
    try simp only [Act.put, lay1, lay2, lay3]
    refine wpAnyH_take (i := 31) (oi := ⟨some 69, Op.load t' (Operand.tmp 4), _, _, _, _⟩) (v := ?v28) rfl (by kernel_rfl) (by kernel_rfl) (by kernel_rfl) (fun _ _ _ h => h) (Or.inl ⟨by rfl, ?hy28⟩) (by assumption) ?rest28
    case hy28 => ((intro w0 hSw; have hs1 := HLD.out B4 (b0) w0 (tt.range_of (hSw (B4, b0) (by simp))); go_simp); try (with_reducible rfl))
    try simp only [Act.put, lay1, lay2, lay3]
    refine wpAnyH_ready (rs := [32]) (by kernel_rfl) (by simp) ?_
    refine AllReadyH.cons (o := ⟨some 70, Op.buildSlice 42 1 #[(0, (Operand.tmp 69))], _, _, _, _⟩) rfl (fun K hK => ?_) AllReadyH.nil
    go_simp
    obtain ⟨wn11, hn⟩ : ∃ w', wn10.alloc (.cells (na b0) 31) = w' := ⟨_, rfl⟩
    obtain ⟨S3, hm⟩ : ∃ B, wn10.heap.size = B := ⟨_, rfl⟩
    replace HF := Lib.hid (HF.out.var (w2 := wn11) (B := S3) (x := b0) (by rw [← hn]; exact grown_alloc (grown_refl _ _) _) (Nat.le_of_eq hm) (by rw [← hn, ← hm]; exact heap_alloc_new _ _))
    rw [hn, hm]
    clear hn hm
    refine hK.out _ _ (by first | exact fun x hx => (HF.out.vars x hx).1 | exact fun x hx => (HF.out.vars x (.tail _ hx)).1 | exact fun x hx => (HF.out.vars x (.tail _ (.tail _ hx))).1 | exact fun x hx => (HF.out.vars x (.tail _ (.tail _ (.tail _ hx)))).1 | exact fun x hx => (HF.out.vars x (.tail _ (.tail _ (.tail _ (.tail _ hx))))).1 | exact fun x hx => (HF.out.vars x (.tail _ (.tail _ (.tail _ (.tail _ (.tail _ hx)))))).1) (fun hHeld => ?_)
    clear hK K
    try simp only [Act.put, lay1, lay2, lay3]
    refine wpAnyH_ready (rs := [33]) (by kernel_rfl) (by simp) ?_
    refine AllReadyH.cons (o := ⟨some 71, Op.call { callee := Callee.value (Operand.func 12), args := #[(Operand.tmp 67), (Operand.tmp 68), (Operand.tmp 70)], argTypes := #[22, 31, 42] }, _, _, _, _⟩) rfl (fun K hK => ?_) AllReadyH.nil
    go_simp
    (with_reducible refine (HF.out.one HT.out ack0 wack S3 b0 (by simp) g4).mono ?_); rintro e wn12 ⟨rfl, Fwn12, hf⟩; replace HF : Hid (Fl w wn12 h Fwn12 w4' _) := Lib.hid hf; clear hf
    go_wp2_with fail
    refine hK.out _ _ (by first | exact fun x hx => (HF.out.vars x hx).1 | exact fun x hx => (HF.out.vars x (.tail _ hx)).1 | exact fun x hx => (HF.out.vars x (.tail _ (.tail _ hx))).1 | exact fun x hx => (HF.out.vars x (.tail _ (.tail _ (.tail _ hx)))).1 | exact fun x hx => (HF.out.vars x (.tail _ (.tail _ (.tail _ (.tail _ hx))))).1 | exact fun x hx => (HF.out.vars x (.tail _ (.tail _ (.tail _ (.tail _ (.tail _ hx)))))).1) (fun hHeld => ?_)
    clear hK K
    try simp only [Act.put, lay1, lay2, lay3]
    refine wpAnyH_take (i := 34) (oi := ⟨some 72, Op.unOp UnOp.not 4 (Operand.tmp 71), _, _, _, _⟩) (v := ?v29) rfl (by kernel_rfl) (by kernel_rfl) (by kernel_rfl) (fun _ _ _ h => h) (Or.inl ⟨by rfl, ?hy29⟩) (by assumption) ?rest29
    case hy29 => ((intro w0 hSw; go_simp); try (with_reducible rfl))
    try simp only [Act.put, lay1, lay2, lay3]
    refine wpAnyH_take (i := 35) (oi := ⟨some 73, Op.pick (Operand.tmp 66) (Operand.const (Value.bool true)) (Operand.tmp 72), _, _, _, _⟩) (v := ?v30) rfl (by kernel_rfl) (by kernel_rfl) (by kernel_rfl) (fun _ _ _ h => h) (Or.inl ⟨by rfl, ?hy30⟩) (by assumption) ?rest30
    case hy30 => ((intro w0 hSw; go_simp); try (with_reducible rfl))
    try simp only [Act.put, lay1, lay2, lay3]
    refine wpAnyH_take (i := 36) (oi := ⟨some 74, Op.move (Operand.tmp 73), _, _, _, _⟩) (v := ?v31) rfl (by kernel_rfl) (by kernel_rfl) (by kernel_rfl) (fun _ _ _ h => h) (Or.inl ⟨by rfl, ?hy31⟩) (by assumption) ?rest31
    case hy31 => ((intro w0 hSw; go_simp); try (with_reducible rfl))
    try simp only [Act.put, lay1, lay2, lay3]
    refine wpAnyH_take (i := 37) (oi := ⟨some 75, Op.move (Operand.tmp 1), _, _, _, _⟩) (v := ?v32) rfl (by kernel_rfl) (by kernel_rfl) (by kernel_rfl) (fun _ _ _ h => h) (Or.inl ⟨by rfl, ?hy32⟩) (by assumption) ?rest32
    case hy32 => ((intro w0 hSw; go_simp); try (with_reducible rfl))
    try simp only [Act.put, lay1, lay2, lay3]
    refine wpAnyH_ready (rs := [38]) (by kernel_rfl) (by simp) ?_
    refine AllReadyH.cons (o := ⟨some 76, Op.call { callee := Callee.value (Operand.func 10), args := #[Operand.const (Value.int IntKind.u8 11), Operand.const (Value.int IntKind.i64 1)], argTypes := #[5, 3] }, _, _, _, _⟩) rfl (fun K hK => ?_) AllReadyH.nil
    go_simp
    (with_reducible refine (up_any 11 1 _).mono ?_); rintro e wn13 ⟨rfl, hg⟩; replace HF := Lib.hid (HF.out.grown hg); clear hg
    go_wp2_with fail
    refine hK.out _ _ (by first | exact fun x hx => (HF.out.vars x hx).1 | exact fun x hx => (HF.out.vars x (.tail _ hx)).1 | exact fun x hx => (HF.out.vars x (.tail _ (.tail _ hx))).1 | exact fun x hx => (HF.out.vars x (.tail _ (.tail _ (.tail _ hx)))).1 | exact fun x hx => (HF.out.vars x (.tail _ (.tail _ (.tail _ (.tail _ hx))))).1 | exact fun x hx => (HF.out.vars x (.tail _ (.tail _ (.tail _ (.tail _ (.tail _ hx)))))).1) (fun hHeld => ?_)
    clear hK K
    try simp only [Act.put, lay1, lay2, lay3]
    refine wpAnyH_ready (rs := [39]) (by kernel_rfl) (by simp) ?_
    refine AllReadyH.cons (o := ⟨some 77, Op.call { callee := Callee.value (Operand.func 12), args := #[(Operand.tmp 75), (Operand.tmp 76), Operand.const (Value.slice none 0 0)], argTypes := #[22, 31, 42] }, _, _, _, _⟩) rfl (fun K hK => ?_) AllReadyH.nil
    go_simp
    (with_reducible refine (HF.out.none HT.out (upn 11 1) (wup _ _) g5).mono ?_); rintro e wn14 ⟨rfl, Fwn14, hf⟩; replace HF : Hid (Fl w wn14 h Fwn14 w5' _) := Lib.hid hf; clear hf
    go_wp2_with fail
    refine hK.out _ _ (by first | exact fun x hx => (HF.out.vars x hx).1 | exact fun x hx => (HF.out.vars x (.tail _ hx)).1 | exact fun x hx => (HF.out.vars x (.tail _ (.tail _ hx))).1 | exact fun x hx => (HF.out.vars x (.tail _ (.tail _ (.tail _ hx)))).1 | exact fun x hx => (HF.out.vars x (.tail _ (.tail _ (.tail _ (.tail _ hx))))).1 | exact fun x hx => (HF.out.vars x (.tail _ (.tail _ (.tail _ (.tail _ (.tail _ hx)))))).1) (fun hHeld => ?_)
    clear hK K
    try simp only [Act.put, lay1, lay2, lay3]
    refine wpAnyH_take (i := 40) (oi := ⟨some 78, Op.unOp UnOp.not 4 (Operand.tmp 77), _, _, _, _⟩) (v := ?v33) rfl (by kernel_rfl) (by kernel_rfl) (by kernel_rfl) (fun _ _ _ h => h) (Or.inl ⟨by rfl, ?hy33⟩) (by assumption) ?rest33
    case hy33 => ((intro w0 hSw; go_simp); try (with_reducible rfl))
    try simp only [Act.put, lay1, lay2, lay3]
    refine wpAnyH_take (i := 41) (oi := ⟨some 79, Op.pick (Operand.tmp 74) (Operand.const (Value.bool true)) (Operand.tmp 78), _, _, _, _⟩) (v := ?v34) rfl (by kernel_rfl) (by kernel_rfl) (by kernel_rfl) (fun _ _ _ h => h) (Or.inl ⟨by rfl, ?hy34⟩) (by assumption) ?rest34
    case hy34 => ((intro w0 hSw; go_simp); try (with_reducible rfl))
    try simp only [Act.put, lay1, lay2, lay3]
    refine wpAnyH_done (by kernel_rfl) ?_ _
    go_wp2_with fail
    rw [HTT.out]
    refine wp_region_held_drew (S := fun w' => ∀ x ∈ [(B8, dnn 4 1), (B7, nack0), (B6, ref0), (B5, ack0), (B4, b0), (B3, a0)], w'.heap[x.1]? = some (.cells (na x.2) 31 (0, 0))) (by kernel_rfl) (by first | exact fun x hx => ((HF.out.grown (tt.grown_drew (grown_refl _ _))).vars x hx).1 | exact fun x hx => ((HF.out.grown (tt.grown_drew (grown_refl _ _))).vars x (.tail _ hx)).1 | exact fun x hx => ((HF.out.grown (tt.grown_drew (grown_refl _ _))).vars x (.tail _ (.tail _ hx))).1 | exact fun x hx => ((HF.out.grown (tt.grown_drew (grown_refl _ _))).vars x (.tail _ (.tail _ (.tail _ hx)))).1 | exact fun x hx => ((HF.out.grown (tt.grown_drew (grown_refl _ _))).vars x (.tail _ (.tail _ (.tail _ (.tail _ hx))))).1 | exact fun x hx => ((HF.out.grown (tt.grown_drew (grown_refl _ _))).vars x (.tail _ (.tail _ (.tail _ (.tail _ (.tail _ hx)))))).1) (fun hHeld => ?_)
    replace HF := Lib.hid (HF.out.grown (tt.grown_drew (grown_refl _ _)))
    generalize World.drew _ = wd14 at hHeld HF ⊢
    refine wpAnyH_take (i := 0) (oi := ⟨some 80, Op.move (Operand.tmp 1), _, _, _, _⟩) (v := ?v35) rfl (by kernel_rfl) (by kernel_rfl) (by kernel_rfl) (fun _ _ _ h => h) (Or.inl ⟨by rfl, ?hy35⟩) (by assumption) ?rest35
    case hy35 => ((intro w0 hSw; go_simp); try (with_reducible rfl))
    try simp only [Act.put, lay1, lay2, lay3]
    refine wpAnyH_take (i := 2) (oi := ⟨some 82, Op.load t' (Operand.tmp 8), _, _, _, _⟩) (v := ?v36) rfl (by kernel_rfl) (by kernel_rfl) (by kernel_rfl) (fun _ _ _ h => h) (Or.inl ⟨by rfl, ?hy36⟩) (by assumption) ?rest36
    case hy36 => ((intro w0 hSw; have hs1 := HLD.out B8 (dnn 4 1) w0 (tt.range_of (hSw (B8, dnn 4 1) (by simp))); go_simp); try (with_reducible rfl))
    try simp only [Act.put, lay1, lay2, lay3]
    refine wpAnyH_ready (rs := [1, 3]) (by kernel_rfl) (by simp) ?_
    refine AllReadyH.cons (o := ⟨some 81, Op.call { callee := Callee.value (Operand.func 10), args := #[Operand.const (Value.int IntKind.u8 1), Operand.const (Value.int IntKind.i64 0)], argTypes := #[5, 3] }, _, _, _, _⟩) rfl (fun K hK => ?_) (AllReadyH.cons (o := ⟨some 83, Op.buildSlice 42 1 #[(0, (Operand.tmp 82))], _, _, _, _⟩) rfl (fun K hK => ?_) AllReadyH.nil)
    · skip
      go_simp
      (with_reducible refine (up_any 1 0 _).mono ?_); rintro e wn15 ⟨rfl, hg⟩; replace HF := Lib.hid (HF.out.grown hg); clear hg
      go_wp2_with fail
      refine hK.out _ _ (by first | exact fun x hx => (HF.out.vars x hx).1 | exact fun x hx => (HF.out.vars x (.tail _ hx)).1 | exact fun x hx => (HF.out.vars x (.tail _ (.tail _ hx))).1 | exact fun x hx => (HF.out.vars x (.tail _ (.tail _ (.tail _ hx)))).1 | exact fun x hx => (HF.out.vars x (.tail _ (.tail _ (.tail _ (.tail _ hx))))).1 | exact fun x hx => (HF.out.vars x (.tail _ (.tail _ (.tail _ (.tail _ (.tail _ hx)))))).1) (fun hHeld => ?_)
      clear hK K
      try simp only [Act.put, lay1, lay2, lay3]
      refine wpAnyH_ready (rs := [3]) (by kernel_rfl) (by simp) ?_
      refine AllReadyH.cons (o := ⟨some 83, Op.buildSlice 42 1 #[(0, (Operand.tmp 82))], _, _, _, _⟩) rfl (fun K hK => ?_) AllReadyH.nil
      go_simp
      obtain ⟨wn16, hn⟩ : ∃ w', wn15.alloc (.cells (na (dnn 4 1)) 31) = w' := ⟨_, rfl⟩
      obtain ⟨S4, hm⟩ : ∃ B, wn15.heap.size = B := ⟨_, rfl⟩
      replace HF := Lib.hid (HF.out.var (w2 := wn16) (B := S4) (x := (dnn 4 1)) (by rw [← hn]; exact grown_alloc (grown_refl _ _) _) (Nat.le_of_eq hm) (by rw [← hn, ← hm]; exact heap_alloc_new _ _))
      rw [hn, hm]
      clear hn hm
      refine hK.out _ _ (by first | exact fun x hx => (HF.out.vars x hx).1 | exact fun x hx => (HF.out.vars x (.tail _ hx)).1 | exact fun x hx => (HF.out.vars x (.tail _ (.tail _ hx))).1 | exact fun x hx => (HF.out.vars x (.tail _ (.tail _ (.tail _ hx)))).1 | exact fun x hx => (HF.out.vars x (.tail _ (.tail _ (.tail _ (.tail _ hx))))).1 | exact fun x hx => (HF.out.vars x (.tail _ (.tail _ (.tail _ (.tail _ (.tail _ hx)))))).1) (fun hHeld => ?_)
      clear hK K
      try simp only [Act.put, lay1, lay2, lay3]
      refine wpAnyH_ready (rs := [4]) (by kernel_rfl) (by simp) ?_
      refine AllReadyH.cons (o := ⟨some 84, Op.call { callee := Callee.value (Operand.func 12), args := #[(Operand.tmp 80), (Operand.tmp 81), (Operand.tmp 83)], argTypes := #[22, 31, 42] }, _, _, _, _⟩) rfl (fun K hK => ?_) AllReadyH.nil
      go_simp
      (with_reducible refine (HF.out.one HT.out (upn 1 0) (wup _ _) S4 (dnn 4 1) (by simp) g6).mono ?_); rintro e wn17 ⟨rfl, Fwn17, hf⟩; replace HF : Hid (Fl w wn17 h Fwn17 w6' _) := Lib.hid hf; clear hf
      go_wp2_with fail
      refine hK.out _ _ (by first | exact fun x hx => (HF.out.vars x hx).1 | exact fun x hx => (HF.out.vars x (.tail _ hx)).1 | exact fun x hx => (HF.out.vars x (.tail _ (.tail _ hx))).1 | exact fun x hx => (HF.out.vars x (.tail _ (.tail _ (.tail _ hx)))).1 | exact fun x hx => (HF.out.vars x (.tail _ (.tail _ (.tail _ (.tail _ hx))))).1 | exact fun x hx => (HF.out.vars x (.tail _ (.tail _ (.tail _ (.tail _ (.tail _ hx)))))).1) (fun hHeld => ?_)
      clear hK K
      try simp only [Act.put, lay1, lay2, lay3]
      refine wpAnyH_take (i := 5) (oi := ⟨some 85, Op.unOp UnOp.not 4 (Operand.tmp 84), _, _, _, _⟩) (v := ?v37) rfl (by kernel_rfl) (by kernel_rfl) (by kernel_rfl) (fun _ _ _ h => h) (Or.inl ⟨by rfl, ?hy37⟩) (by assumption) ?rest37
      case hy37 => ((intro w0 hSw; go_simp); try (with_reducible rfl))
      try simp only [Act.put, lay1, lay2, lay3]
      refine wpAnyH_take (i := 6) (oi := ⟨some 86, Op.move (Operand.tmp 85), _, _, _, _⟩) (v := ?v38) rfl (by kernel_rfl) (by kernel_rfl) (by kernel_rfl) (fun _ _ _ h => h) (Or.inl ⟨by rfl, ?hy38⟩) (by assumption) ?rest38
      case hy38 => ((intro w0 hSw; go_simp); try (with_reducible rfl))
      try simp only [Act.put, lay1, lay2, lay3]
      refine wpAnyH_take (i := 7) (oi := ⟨some 87, Op.move (Operand.tmp 1), _, _, _, _⟩) (v := ?v39) rfl (by kernel_rfl) (by kernel_rfl) (by kernel_rfl) (fun _ _ _ h => h) (Or.inl ⟨by rfl, ?hy39⟩) (by assumption) ?rest39
      case hy39 => ((intro w0 hSw; go_simp); try (with_reducible rfl))
      try simp only [Act.put, lay1, lay2, lay3]
      refine wpAnyH_take (i := 8) (oi := ⟨some 88, Op.load t' (Operand.tmp 6), _, _, _, _⟩) (v := ?v40) rfl (by kernel_rfl) (by kernel_rfl) (by kernel_rfl) (fun _ _ _ h => h) (Or.inl ⟨by rfl, ?hy40⟩) (by assumption) ?rest40
      case hy40 => ((intro w0 hSw; have hs1 := HLD.out B6 (ref0) w0 (tt.range_of (hSw (B6, ref0) (by simp))); go_simp); try (with_reducible rfl))
      try simp only [Act.put, lay1, lay2, lay3]
      refine wpAnyH_take (i := 9) (oi := ⟨some 89, Op.load t' (Operand.tmp 7), _, _, _, _⟩) (v := ?v41) rfl (by kernel_rfl) (by kernel_rfl) (by kernel_rfl) (fun _ _ _ h => h) (Or.inl ⟨by rfl, ?hy41⟩) (by assumption) ?rest41
      case hy41 => ((intro w0 hSw; have hs1 := HLD.out B7 (nack0) w0 (tt.range_of (hSw (B7, nack0) (by simp))); go_simp); try (with_reducible rfl))
      try simp only [Act.put, lay1, lay2, lay3]
      refine wpAnyH_ready (rs := [10]) (by kernel_rfl) (by simp) ?_
      refine AllReadyH.cons (o := ⟨some 90, Op.buildSlice 42 1 #[(0, (Operand.tmp 89))], _, _, _, _⟩) rfl (fun K hK => ?_) AllReadyH.nil
      go_simp
      obtain ⟨wn18, hn⟩ : ∃ w', wn17.alloc (.cells (na nack0) 31) = w' := ⟨_, rfl⟩
      obtain ⟨S5, hm⟩ : ∃ B, wn17.heap.size = B := ⟨_, rfl⟩
      replace HF := Lib.hid (HF.out.var (w2 := wn18) (B := S5) (x := nack0) (by rw [← hn]; exact grown_alloc (grown_refl _ _) _) (Nat.le_of_eq hm) (by rw [← hn, ← hm]; exact heap_alloc_new _ _))
      rw [hn, hm]
      clear hn hm
      refine hK.out _ _ (by first | exact fun x hx => (HF.out.vars x hx).1 | exact fun x hx => (HF.out.vars x (.tail _ hx)).1 | exact fun x hx => (HF.out.vars x (.tail _ (.tail _ hx))).1 | exact fun x hx => (HF.out.vars x (.tail _ (.tail _ (.tail _ hx)))).1 | exact fun x hx => (HF.out.vars x (.tail _ (.tail _ (.tail _ (.tail _ hx))))).1 | exact fun x hx => (HF.out.vars x (.tail _ (.tail _ (.tail _ (.tail _ (.tail _ hx)))))).1) (fun hHeld => ?_)
      clear hK K
      try simp only [Act.put, lay1, lay2, lay3]
      refine wpAnyH_ready (rs := [11]) (by kernel_rfl) (by simp) ?_
      refine AllReadyH.cons (o := ⟨some 91, Op.call { callee := Callee.value (Operand.func 12), args := #[(Operand.tmp 87), (Operand.tmp 88), (Operand.tmp 90)], argTypes := #[22, 31, 42] }, _, _, _, _⟩) rfl (fun K hK => ?_) AllReadyH.nil
      go_simp
      (with_reducible refine (HF.out.one HT.out ref0 wref S5 nack0 (by simp) g7).mono ?_); rintro e wn19 ⟨rfl, Fwn19, hf⟩; replace HF : Hid (Fl w wn19 h Fwn19 w7' _) := Lib.hid hf; clear hf
      go_wp2_with fail
      refine hK.out _ _ (by first | exact fun x hx => (HF.out.vars x hx).1 | exact fun x hx => (HF.out.vars x (.tail _ hx)).1 | exact fun x hx => (HF.out.vars x (.tail _ (.tail _ hx))).1 | exact fun x hx => (HF.out.vars x (.tail _ (.tail _ (.tail _ hx)))).1 | exact fun x hx => (HF.out.vars x (.tail _ (.tail _ (.tail _ (.tail _ hx))))).1 | exact fun x hx => (HF.out.vars x (.tail _ (.tail _ (.tail _ (.tail _ (.tail _ hx)))))).1) (fun hHeld => ?_)
      clear hK K
      try simp only [Act.put, lay1, lay2, lay3]
      refine wpAnyH_take (i := 12) (oi := ⟨some 92, Op.unOp UnOp.not 4 (Operand.tmp 91), _, _, _, _⟩) (v := ?v42) rfl (by kernel_rfl) (by kernel_rfl) (by kernel_rfl) (fun _ _ _ h => h) (Or.inl ⟨by rfl, ?hy42⟩) (by assumption) ?rest42
      case hy42 => ((intro w0 hSw; go_simp); try (with_reducible rfl))
      try simp only [Act.put, lay1, lay2, lay3]
      refine wpAnyH_take (i := 13) (oi := ⟨some 93, Op.pick (Operand.tmp 86) (Operand.const (Value.bool true)) (Operand.tmp 92), _, _, _, _⟩) (v := ?v43) rfl (by kernel_rfl) (by kernel_rfl) (by kernel_rfl) (fun _ _ _ h => h) (Or.inl ⟨by rfl, ?hy43⟩) (by assumption) ?rest43
      case hy43 => ((intro w0 hSw; go_simp); try (with_reducible rfl))
      try simp only [Act.put, lay1, lay2, lay3]
      refine wpAnyH_take (i := 14) (oi := ⟨some 94, Op.move (Operand.tmp 93), _, _, _, _⟩) (v := ?v44) rfl (by kernel_rfl) (by kernel_rfl) (by kernel_rfl) (fun _ _ _ h => h) (Or.inl ⟨by rfl, ?hy44⟩) (by assumption) ?rest44
      case hy44 => ((intro w0 hSw; go_simp); try (with_reducible rfl))
      try simp only [Act.put, lay1, lay2, lay3]
      refine wpAnyH_take (i := 15) (oi := ⟨some 95, Op.move (Operand.tmp 1), _, _, _, _⟩) (v := ?v45) rfl (by kernel_rfl) (by kernel_rfl) (by kernel_rfl) (fun _ _ _ h => h) (Or.inl ⟨by rfl, ?hy45⟩) (by assumption) ?rest45
      case hy45 => ((intro w0 hSw; go_simp); try (with_reducible rfl))
      try simp only [Act.put, lay1, lay2, lay3]
      refine wpAnyH_ready (rs := [16]) (by kernel_rfl) (by simp) ?_
      refine AllReadyH.cons (o := ⟨some 96, Op.call { callee := Callee.value (Operand.func 13), args := #[(Operand.tmp 95), Operand.const (Value.int IntKind.i64 5)], argTypes := #[22, 3] }, _, _, _, _⟩) rfl (fun K hK => ?_) AllReadyH.nil
      go_simp
      have hbu := own_busy HF.out.own 5
      rw [g7b] at hbu
      (refine (Calls.mono hbu ?_)); rintro e wn20 ⟨rfl, hg⟩; replace HF := Lib.hid (HF.out.grown hg); clear hg hbu
      go_wp2_with fail
      refine hK.out _ _ (by first | exact fun x hx => (HF.out.vars x hx).1 | exact fun x hx => (HF.out.vars x (.tail _ hx)).1 | exact fun x hx => (HF.out.vars x (.tail _ (.tail _ hx))).1 | exact fun x hx => (HF.out.vars x (.tail _ (.tail _ (.tail _ hx)))).1 | exact fun x hx => (HF.out.vars x (.tail _ (.tail _ (.tail _ (.tail _ hx))))).1 | exact fun x hx => (HF.out.vars x (.tail _ (.tail _ (.tail _ (.tail _ (.tail _ hx)))))).1) (fun hHeld => ?_)
      clear hK K
      try simp only [Act.put, lay1, lay2, lay3]
      refine wpAnyH_take (i := 17) (oi := ⟨some 97, Op.pick (Operand.tmp 94) (Operand.const (Value.bool true)) (Operand.tmp 96), _, _, _, _⟩) (v := ?v46) rfl (by kernel_rfl) (by kernel_rfl) (by kernel_rfl) (fun _ _ _ h => h) (Or.inl ⟨by rfl, ?hy46⟩) (by assumption) ?rest46
      case hy46 => ((intro w0 hSw; go_simp); try (with_reducible rfl))
      try simp only [Act.put, lay1, lay2, lay3]
      refine wpAnyH_done (by kernel_rfl) ?_ _
      try rw [← HTT.out]
      go_wp2_with (first
        | (go_at_call 15; ((with_reducible refine (two_any _).mono ?_); rintro e v1 ⟨rfl, hg⟩; replace HF := Lib.hid (HF.out.grown hg); clear hg))
        | (go_at_call 14; ((with_reducible refine (new_nil c2 _).mono ?_); rintro e v2 ⟨rfl, hg⟩; replace HF := Lib.hid (HF.out.grown hg); clear hg))
        | (go_at_call 16; ((with_reducible refine (take_nil a0 _).mono ?_); rintro e v3 ⟨rfl, hg⟩; replace HF := Lib.hid (HF.out.grown hg); clear hg))
        | (go_at_call 17; ((with_reducible refine (entry_nil _ _).mono ?_); rintro e v4 ⟨rfl, hg⟩; replace HF := Lib.hid (HF.out.grown hg); clear hg; replace HF := Lib.hid (HF.out.grown (grown_alloc (grown_refl _ _) (.cells #[.int .i64 0, .int .u32 0] 47)))))
        | ((with_reducible refine load_gd a0 3 B3 ?_ ?_ (tt.range_of (HF.out.vars (B3, a0) (by simp)).1) ?_); (rfl); (rfl))
        | ((with_reducible refine wp_load_mid 31 (.tmp 3) rfl B3 0 ?_ (nt a0) _ (tt.range_of (HF.out.vars (B3, a0) (by simp)).1) Tryd.underlying31 rfl (tt.info31' a0) ?_); (rfl))
        | ((with_reducible refine tt.load_nt a0 _ B3 ?_ (tt.range_of (HF.out.vars (B3, a0) (by simp)).1) ?_); (rfl))
        | (go_at_call 18; ((with_reducible refine (ready_nil a0 _).mono ?_); rintro e v5 ⟨rfl, hg⟩; replace HF := Lib.hid (HF.out.grown hg); clear hg))
        | (go_at_call 13; ((with_reducible refine (busy_nil _ _).mono ?_); rintro e v6 ⟨rfl, rfl⟩))
        | (go_at_call 19; ((with_reducible refine (waits_nil _).mono ?_); rintro e v7 ⟨rfl, rfl⟩))
        | (go_at_call 20; ((with_reducible refine (copy_nil _).mono ?_); rintro e v8 ⟨rfl, rfl⟩)))
      go_ret
      exact ⟨rfl, HF.out.own.old⟩
    · skip
      go_simp
      obtain ⟨wn21, hn⟩ : ∃ w', wd14.alloc (.cells (na (dnn 4 1)) 31) = w' := ⟨_, rfl⟩
      obtain ⟨S4, hm⟩ : ∃ B, wd14.heap.size = B := ⟨_, rfl⟩
      replace HF := Lib.hid (HF.out.var (w2 := wn21) (B := S4) (x := (dnn 4 1)) (by rw [← hn]; exact grown_alloc (grown_refl _ _) _) (Nat.le_of_eq hm) (by rw [← hn, ← hm]; exact heap_alloc_new _ _))
      rw [hn, hm]
      clear hn hm
      refine hK.out _ _ (by first | exact fun x hx => (HF.out.vars x hx).1 | exact fun x hx => (HF.out.vars x (.tail _ hx)).1 | exact fun x hx => (HF.out.vars x (.tail _ (.tail _ hx))).1 | exact fun x hx => (HF.out.vars x (.tail _ (.tail _ (.tail _ hx)))).1 | exact fun x hx => (HF.out.vars x (.tail _ (.tail _ (.tail _ (.tail _ hx))))).1 | exact fun x hx => (HF.out.vars x (.tail _ (.tail _ (.tail _ (.tail _ (.tail _ hx)))))).1) (fun hHeld => ?_)
      clear hK K
      try simp only [Act.put, lay1, lay2, lay3]
      refine wpAnyH_ready (rs := [1]) (by kernel_rfl) (by simp) ?_
      refine AllReadyH.cons (o := ⟨some 81, Op.call { callee := Callee.value (Operand.func 10), args := #[Operand.const (Value.int IntKind.u8 1), Operand.const (Value.int IntKind.i64 0)], argTypes := #[5, 3] }, _, _, _, _⟩) rfl (fun K hK => ?_) AllReadyH.nil
      go_simp
      (with_reducible refine (up_any 1 0 _).mono ?_); rintro e wn22 ⟨rfl, hg⟩; replace HF := Lib.hid (HF.out.grown hg); clear hg
      go_wp2_with fail
      refine hK.out _ _ (by first | exact fun x hx => (HF.out.vars x hx).1 | exact fun x hx => (HF.out.vars x (.tail _ hx)).1 | exact fun x hx => (HF.out.vars x (.tail _ (.tail _ hx))).1 | exact fun x hx => (HF.out.vars x (.tail _ (.tail _ (.tail _ hx)))).1 | exact fun x hx => (HF.out.vars x (.tail _ (.tail _ (.tail _ (.tail _ hx))))).1 | exact fun x hx => (HF.out.vars x (.tail _ (.tail _ (.tail _ (.tail _ (.tail _ hx)))))).1) (fun hHeld => ?_)
      clear hK K
      try simp only [Act.put, lay1, lay2, lay3]
      refine wpAnyH_ready (rs := [4]) (by kernel_rfl) (by simp) ?_
      refine AllReadyH.cons (o := ⟨some 84, Op.call { callee := Callee.value (Operand.func 12), args := #[(Operand.tmp 80), (Operand.tmp 81), (Operand.tmp 83)], argTypes := #[22, 31, 42] }, _, _, _, _⟩) rfl (fun K hK => ?_) AllReadyH.nil
      go_simp
      (with_reducible refine (HF.out.one HT.out (upn 1 0) (wup _ _) S4 (dnn 4 1) (by simp) g6).mono ?_); rintro e wn23 ⟨rfl, Fwn23, hf⟩; replace HF : Hid (Fl w wn23 h Fwn23 w6' _) := Lib.hid hf; clear hf
      go_wp2_with fail
      refine hK.out _ _ (by first | exact fun x hx => (HF.out.vars x hx).1 | exact fun x hx => (HF.out.vars x (.tail _ hx)).1 | exact fun x hx => (HF.out.vars x (.tail _ (.tail _ hx))).1 | exact fun x hx => (HF.out.vars x (.tail _ (.tail _ (.tail _ hx)))).1 | exact fun x hx => (HF.out.vars x (.tail _ (.tail _ (.tail _ (.tail _ hx))))).1 | exact fun x hx => (HF.out.vars x (.tail _ (.tail _ (.tail _ (.tail _ (.tail _ hx)))))).1) (fun hHeld => ?_)
      clear hK K
      try simp only [Act.put, lay1, lay2, lay3]
      refine wpAnyH_take (i := 5) (oi := ⟨some 85, Op.unOp UnOp.not 4 (Operand.tmp 84), _, _, _, _⟩) (v := ?v47) rfl (by kernel_rfl) (by kernel_rfl) (by kernel_rfl) (fun _ _ _ h => h) (Or.inl ⟨by rfl, ?hy47⟩) (by assumption) ?rest47
      case hy47 => ((intro w0 hSw; go_simp); try (with_reducible rfl))
      try simp only [Act.put, lay1, lay2, lay3]
      refine wpAnyH_take (i := 6) (oi := ⟨some 86, Op.move (Operand.tmp 85), _, _, _, _⟩) (v := ?v48) rfl (by kernel_rfl) (by kernel_rfl) (by kernel_rfl) (fun _ _ _ h => h) (Or.inl ⟨by rfl, ?hy48⟩) (by assumption) ?rest48
      case hy48 => ((intro w0 hSw; go_simp); try (with_reducible rfl))
      try simp only [Act.put, lay1, lay2, lay3]
      refine wpAnyH_take (i := 7) (oi := ⟨some 87, Op.move (Operand.tmp 1), _, _, _, _⟩) (v := ?v49) rfl (by kernel_rfl) (by kernel_rfl) (by kernel_rfl) (fun _ _ _ h => h) (Or.inl ⟨by rfl, ?hy49⟩) (by assumption) ?rest49
      case hy49 => ((intro w0 hSw; go_simp); try (with_reducible rfl))
      try simp only [Act.put, lay1, lay2, lay3]
      refine wpAnyH_take (i := 8) (oi := ⟨some 88, Op.load t' (Operand.tmp 6), _, _, _, _⟩) (v := ?v50) rfl (by kernel_rfl) (by kernel_rfl) (by kernel_rfl) (fun _ _ _ h => h) (Or.inl ⟨by rfl, ?hy50⟩) (by assumption) ?rest50
      case hy50 => ((intro w0 hSw; have hs1 := HLD.out B6 (ref0) w0 (tt.range_of (hSw (B6, ref0) (by simp))); go_simp); try (with_reducible rfl))
      try simp only [Act.put, lay1, lay2, lay3]
      refine wpAnyH_take (i := 9) (oi := ⟨some 89, Op.load t' (Operand.tmp 7), _, _, _, _⟩) (v := ?v51) rfl (by kernel_rfl) (by kernel_rfl) (by kernel_rfl) (fun _ _ _ h => h) (Or.inl ⟨by rfl, ?hy51⟩) (by assumption) ?rest51
      case hy51 => ((intro w0 hSw; have hs1 := HLD.out B7 (nack0) w0 (tt.range_of (hSw (B7, nack0) (by simp))); go_simp); try (with_reducible rfl))
      try simp only [Act.put, lay1, lay2, lay3]
      refine wpAnyH_ready (rs := [10]) (by kernel_rfl) (by simp) ?_
      refine AllReadyH.cons (o := ⟨some 90, Op.buildSlice 42 1 #[(0, (Operand.tmp 89))], _, _, _, _⟩) rfl (fun K hK => ?_) AllReadyH.nil
      go_simp
      obtain ⟨wn24, hn⟩ : ∃ w', wn23.alloc (.cells (na nack0) 31) = w' := ⟨_, rfl⟩
      obtain ⟨S5, hm⟩ : ∃ B, wn23.heap.size = B := ⟨_, rfl⟩
      replace HF := Lib.hid (HF.out.var (w2 := wn24) (B := S5) (x := nack0) (by rw [← hn]; exact grown_alloc (grown_refl _ _) _) (Nat.le_of_eq hm) (by rw [← hn, ← hm]; exact heap_alloc_new _ _))
      rw [hn, hm]
      clear hn hm
      refine hK.out _ _ (by first | exact fun x hx => (HF.out.vars x hx).1 | exact fun x hx => (HF.out.vars x (.tail _ hx)).1 | exact fun x hx => (HF.out.vars x (.tail _ (.tail _ hx))).1 | exact fun x hx => (HF.out.vars x (.tail _ (.tail _ (.tail _ hx)))).1 | exact fun x hx => (HF.out.vars x (.tail _ (.tail _ (.tail _ (.tail _ hx))))).1 | exact fun x hx => (HF.out.vars x (.tail _ (.tail _ (.tail _ (.tail _ (.tail _ hx)))))).1) (fun hHeld => ?_)
      clear hK K
      try simp only [Act.put, lay1, lay2, lay3]
      refine wpAnyH_ready (rs := [11]) (by kernel_rfl) (by simp) ?_
      refine AllReadyH.cons (o := ⟨some 91, Op.call { callee := Callee.value (Operand.func 12), args := #[(Operand.tmp 87), (Operand.tmp 88), (Operand.tmp 90)], argTypes := #[22, 31, 42] }, _, _, _, _⟩) rfl (fun K hK => ?_) AllReadyH.nil
      go_simp
      (with_reducible refine (HF.out.one HT.out ref0 wref S5 nack0 (by simp) g7).mono ?_); rintro e wn25 ⟨rfl, Fwn25, hf⟩; replace HF : Hid (Fl w wn25 h Fwn25 w7' _) := Lib.hid hf; clear hf
      go_wp2_with fail
      refine hK.out _ _ (by first | exact fun x hx => (HF.out.vars x hx).1 | exact fun x hx => (HF.out.vars x (.tail _ hx)).1 | exact fun x hx => (HF.out.vars x (.tail _ (.tail _ hx))).1 | exact fun x hx => (HF.out.vars x (.tail _ (.tail _ (.tail _ hx)))).1 | exact fun x hx => (HF.out.vars x (.tail _ (.tail _ (.tail _ (.tail _ hx))))).1 | exact fun x hx => (HF.out.vars x (.tail _ (.tail _ (.tail _ (.tail _ (.tail _ hx)))))).1) (fun hHeld => ?_)
      clear hK K
      try simp only [Act.put, lay1, lay2, lay3]
      refine wpAnyH_take (i := 12) (oi := ⟨some 92, Op.unOp UnOp.not 4 (Operand.tmp 91), _, _, _, _⟩) (v := ?v52) rfl (by kernel_rfl) (by kernel_rfl) (by kernel_rfl) (fun _ _ _ h => h) (Or.inl ⟨by rfl, ?hy52⟩) (by assumption) ?rest52
      case hy52 => ((intro w0 hSw; go_simp); try (with_reducible rfl))
      try simp only [Act.put, lay1, lay2, lay3]
      refine wpAnyH_take (i := 13) (oi := ⟨some 93, Op.pick (Operand.tmp 86) (Operand.const (Value.bool true)) (Operand.tmp 92), _, _, _, _⟩) (v := ?v53) rfl (by kernel_rfl) (by kernel_rfl) (by kernel_rfl) (fun _ _ _ h => h) (Or.inl ⟨by rfl, ?hy53⟩) (by assumption) ?rest53
      case hy53 => ((intro w0 hSw; go_simp); try (with_reducible rfl))
      try simp only [Act.put, lay1, lay2, lay3]
      refine wpAnyH_take (i := 14) (oi := ⟨some 94, Op.move (Operand.tmp 93), _, _, _, _⟩) (v := ?v54) rfl (by kernel_rfl) (by kernel_rfl) (by kernel_rfl) (fun _ _ _ h => h) (Or.inl ⟨by rfl, ?hy54⟩) (by assumption) ?rest54
      case hy54 => ((intro w0 hSw; go_simp); try (with_reducible rfl))
      try simp only [Act.put, lay1, lay2, lay3]
      refine wpAnyH_take (i := 15) (oi := ⟨some 95, Op.move (Operand.tmp 1), _, _, _, _⟩) (v := ?v55) rfl (by kernel_rfl) (by kernel_rfl) (by kernel_rfl) (fun _ _ _ h => h) (Or.inl ⟨by rfl, ?hy55⟩) (by assumption) ?rest55
      case hy55 => ((intro w0 hSw; go_simp); try (with_reducible rfl))
      try simp only [Act.put, lay1, lay2, lay3]
      refine wpAnyH_ready (rs := [16]) (by kernel_rfl) (by simp) ?_
      refine AllReadyH.cons (o := ⟨some 96, Op.call { callee := Callee.value (Operand.func 13), args := #[(Operand.tmp 95), Operand.const (Value.int IntKind.i64 5)], argTypes := #[22, 3] }, _, _, _, _⟩) rfl (fun K hK => ?_) AllReadyH.nil
      go_simp
      have hbu := own_busy HF.out.own 5
      rw [g7b] at hbu
      (refine (Calls.mono hbu ?_)); rintro e wn26 ⟨rfl, hg⟩; replace HF := Lib.hid (HF.out.grown hg); clear hg hbu
      go_wp2_with fail
      refine hK.out _ _ (by first | exact fun x hx => (HF.out.vars x hx).1 | exact fun x hx => (HF.out.vars x (.tail _ hx)).1 | exact fun x hx => (HF.out.vars x (.tail _ (.tail _ hx))).1 | exact fun x hx => (HF.out.vars x (.tail _ (.tail _ (.tail _ hx)))).1 | exact fun x hx => (HF.out.vars x (.tail _ (.tail _ (.tail _ (.tail _ hx))))).1 | exact fun x hx => (HF.out.vars x (.tail _ (.tail _ (.tail _ (.tail _ (.tail _ hx)))))).1) (fun hHeld => ?_)
      clear hK K
      try simp only [Act.put, lay1, lay2, lay3]
      refine wpAnyH_take (i := 17) (oi := ⟨some 97, Op.pick (Operand.tmp 94) (Operand.const (Value.bool true)) (Operand.tmp 96), _, _, _, _⟩) (v := ?v56) rfl (by kernel_rfl) (by kernel_rfl) (by kernel_rfl) (fun _ _ _ h => h) (Or.inl ⟨by rfl, ?hy56⟩) (by assumption) ?rest56
      case hy56 => ((intro w0 hSw; go_simp); try (with_reducible rfl))
      try simp only [Act.put, lay1, lay2, lay3]
      refine wpAnyH_done (by kernel_rfl) ?_ _
      try rw [← HTT.out]
      go_wp2_with (first
        | (go_at_call 15; ((with_reducible refine (two_any _).mono ?_); rintro e v1 ⟨rfl, hg⟩; replace HF := Lib.hid (HF.out.grown hg); clear hg))
        | (go_at_call 14; ((with_reducible refine (new_nil c2 _).mono ?_); rintro e v2 ⟨rfl, hg⟩; replace HF := Lib.hid (HF.out.grown hg); clear hg))
        | (go_at_call 16; ((with_reducible refine (take_nil a0 _).mono ?_); rintro e v3 ⟨rfl, hg⟩; replace HF := Lib.hid (HF.out.grown hg); clear hg))
        | (go_at_call 17; ((with_reducible refine (entry_nil _ _).mono ?_); rintro e v4 ⟨rfl, hg⟩; replace HF := Lib.hid (HF.out.grown hg); clear hg; replace HF := Lib.hid (HF.out.grown (grown_alloc (grown_refl _ _) (.cells #[.int .i64 0, .int .u32 0] 47)))))
        | ((with_reducible refine load_gd a0 3 B3 ?_ ?_ (tt.range_of (HF.out.vars (B3, a0) (by simp)).1) ?_); (rfl); (rfl))
        | ((with_reducible refine wp_load_mid 31 (.tmp 3) rfl B3 0 ?_ (nt a0) _ (tt.range_of (HF.out.vars (B3, a0) (by simp)).1) Tryd.underlying31 rfl (tt.info31' a0) ?_); (rfl))
        | ((with_reducible refine tt.load_nt a0 _ B3 ?_ (tt.range_of (HF.out.vars (B3, a0) (by simp)).1) ?_); (rfl))
        | (go_at_call 18; ((with_reducible refine (ready_nil a0 _).mono ?_); rintro e v5 ⟨rfl, hg⟩; replace HF := Lib.hid (HF.out.grown hg); clear hg))
        | (go_at_call 13; ((with_reducible refine (busy_nil _ _).mono ?_); rintro e v6 ⟨rfl, rfl⟩))
        | (go_at_call 19; ((with_reducible refine (waits_nil _).mono ?_); rintro e v7 ⟨rfl, rfl⟩))
        | (go_at_call 20; ((with_reducible refine (copy_nil _).mono ?_); rintro e v8 ⟨rfl, rfl⟩)))
      go_ret
      exact ⟨rfl, HF.out.own.old⟩
  · skip
    go_simp
    obtain ⟨wn27, hn⟩ : ∃ w', wn1.alloc (.cells (na a0) 31) = w' := ⟨_, rfl⟩
    obtain ⟨S1, hm⟩ : ∃ B, wn1.heap.size = B := ⟨_, rfl⟩
    replace HF := Lib.hid (HF.out.var (w2 := wn27) (B := S1) (x := a0) (by rw [← hn]; exact grown_alloc (grown_refl _ _) _) (Nat.le_of_eq hm) (by rw [← hn, ← hm]; exact heap_alloc_new _ _))
    rw [hn, hm]
    clear hn hm
    refine hK.out _ _ (by first | exact fun x hx => (HF.out.vars x hx).1 | exact fun x hx => (HF.out.vars x (.tail _ hx)).1 | exact fun x hx => (HF.out.vars x (.tail _ (.tail _ hx))).1 | exact fun x hx => (HF.out.vars x (.tail _ (.tail _ (.tail _ hx)))).1 | exact fun x hx => (HF.out.vars x (.tail _ (.tail _ (.tail _ (.tail _ hx))))).1 | exact fun x hx => (HF.out.vars x (.tail _ (.tail _ (.tail _ (.tail _ (.tail _ hx)))))).1) (fun hHeld => ?_)
    clear hK K
    try simp only [Act.put, lay1, lay2, lay3]
    refine wpAnyH_ready (rs := [8]) (by kernel_rfl) (by simp) ?_
    refine AllReadyH.cons (o := ⟨some 46, Op.call { callee := Callee.value (Operand.func 10), args := #[Operand.const (Value.int IntKind.u8 1), Operand.const (Value.int IntKind.i64 0)], argTypes := #[5, 3] }, _, _, _, _⟩) rfl (fun K hK => ?_) AllReadyH.nil
    go_simp
    (with_reducible refine (up_any 1 0 _).mono ?_); rintro e wn28 ⟨rfl, hg⟩; replace HF := Lib.hid (HF.out.grown hg); clear hg
    go_wp2_with fail
    refine hK.out _ _ (by first | exact fun x hx => (HF.out.vars x hx).1 | exact fun x hx => (HF.out.vars x (.tail _ hx)).1 | exact fun x hx => (HF.out.vars x (.tail _ (.tail _ hx))).1 | exact fun x hx => (HF.out.vars x (.tail _ (.tail _ (.tail _ hx)))).1 | exact fun x hx => (HF.out.vars x (.tail _ (.tail _ (.tail _ (.tail _ hx))))).1 | exact fun x hx => (HF.out.vars x (.tail _ (.tail _ (.tail _ (.tail _ (.tail _ hx)))))).1) (fun hHeld => ?_)
    clear hK K
    try simp only [Act.put, lay1, lay2, lay3]
    refine wpAnyH_ready (rs := [11]) (by kernel_rfl) (by simp) ?_
    refine AllReadyH.cons (o := ⟨some 49, Op.call { callee := Callee.value (Operand.func 12), args := #[(Operand.tmp 45), (Operand.tmp 46), (Operand.tmp 48)], argTypes := #[22, 31, 42] }, _, _, _, _⟩) rfl (fun K hK => ?_) AllReadyH.nil
    go_simp
    (with_reducible refine (HF.out.one HT.out (upn 1 0) (wup _ _) S1 a0 (by simp) g1).mono ?_); rintro e wn29 ⟨rfl, Fwn29, hf⟩; replace HF : Hid (Fl w wn29 h Fwn29 w1' _) := Lib.hid hf; clear hf
    go_wp2_with fail
    refine hK.out _ _ (by first | exact fun x hx => (HF.out.vars x hx).1 | exact fun x hx => (HF.out.vars x (.tail _ hx)).1 | exact fun x hx => (HF.out.vars x (.tail _ (.tail _ hx))).1 | exact fun x hx => (HF.out.vars x (.tail _ (.tail _ (.tail _ hx)))).1 | exact fun x hx => (HF.out.vars x (.tail _ (.tail _ (.tail _ (.tail _ hx))))).1 | exact fun x hx => (HF.out.vars x (.tail _ (.tail _ (.tail _ (.tail _ (.tail _ hx)))))).1) (fun hHeld => ?_)
    clear hK K
    try simp only [Act.put, lay1, lay2, lay3]
    refine wpAnyH_take (i := 12) (oi := ⟨some 50, Op.unOp UnOp.not 4 (Operand.tmp 49), _, _, _, _⟩) (v := ?v57) rfl (by kernel_rfl) (by kernel_rfl) (by kernel_rfl) (fun _ _ _ h => h) (Or.inl ⟨by rfl, ?hy57⟩) (by assumption) ?rest57
    case hy57 => ((intro w0 hSw; go_simp); try (with_reducible rfl))
    try simp only [Act.put, lay1, lay2, lay3]
    refine wpAnyH_take (i := 13) (oi := ⟨some 51, Op.pick (Operand.tmp 44) (Operand.const (Value.bool true)) (Operand.tmp 50), _, _, _, _⟩) (v := ?v58) rfl (by kernel_rfl) (by kernel_rfl) (by kernel_rfl) (fun _ _ _ h => h) (Or.inl ⟨by rfl, ?hy58⟩) (by assumption) ?rest58
    case hy58 => ((intro w0 hSw; go_simp); try (with_reducible rfl))
    try simp only [Act.put, lay1, lay2, lay3]
    refine wpAnyH_take (i := 14) (oi := ⟨some 52, Op.move (Operand.tmp 51), _, _, _, _⟩) (v := ?v59) rfl (by kernel_rfl) (by kernel_rfl) (by kernel_rfl) (fun _ _ _ h => h) (Or.inl ⟨by rfl, ?hy59⟩) (by assumption) ?rest59
    case hy59 => ((intro w0 hSw; go_simp); try (with_reducible rfl))
    try simp only [Act.put, lay1, lay2, lay3]
    refine wpAnyH_take (i := 15) (oi := ⟨some 53, Op.move (Operand.tmp 1), _, _, _, _⟩) (v := ?v60) rfl (by kernel_rfl) (by kernel_rfl) (by kernel_rfl) (fun _ _ _ h => h) (Or.inl ⟨by rfl, ?hy60⟩) (by assumption) ?rest60
    case hy60 => ((intro w0 hSw; go_simp); try (with_reducible rfl))
    try simp only [Act.put, lay1, lay2, lay3]
    refine wpAnyH_ready (rs := [16]) (by kernel_rfl) (by simp) ?_
    refine AllReadyH.cons (o := ⟨some 54, Op.call { callee := Callee.value (Operand.func 10), args := #[Operand.const (Value.int IntKind.u8 2), Operand.const (Value.int IntKind.i64 1)], argTypes := #[5, 3] }, _, _, _, _⟩) rfl (fun K hK => ?_) AllReadyH.nil
    go_simp
    (with_reducible refine (up_any 2 1 _).mono ?_); rintro e wn30 ⟨rfl, hg⟩; replace HF := Lib.hid (HF.out.grown hg); clear hg
    go_wp2_with fail
    refine hK.out _ _ (by first | exact fun x hx => (HF.out.vars x hx).1 | exact fun x hx => (HF.out.vars x (.tail _ hx)).1 | exact fun x hx => (HF.out.vars x (.tail _ (.tail _ hx))).1 | exact fun x hx => (HF.out.vars x (.tail _ (.tail _ (.tail _ hx)))).1 | exact fun x hx => (HF.out.vars x (.tail _ (.tail _ (.tail _ (.tail _ hx))))).1 | exact fun x hx => (HF.out.vars x (.tail _ (.tail _ (.tail _ (.tail _ (.tail _ hx)))))).1) (fun hHeld => ?_)
    clear hK K
    try simp only [Act.put, lay1, lay2, lay3]
    refine wpAnyH_ready (rs := [17]) (by kernel_rfl) (by simp) ?_
    refine AllReadyH.cons (o := ⟨some 55, Op.call { callee := Callee.value (Operand.func 12), args := #[(Operand.tmp 53), (Operand.tmp 54), Operand.const (Value.slice none 0 0)], argTypes := #[22, 31, 42] }, _, _, _, _⟩) rfl (fun K hK => ?_) AllReadyH.nil
    go_simp
    (with_reducible refine (HF.out.none HT.out (upn 2 1) (wup _ _) g2).mono ?_); rintro e wn31 ⟨rfl, Fwn31, hf⟩; replace HF : Hid (Fl w wn31 h Fwn31 w2' _) := Lib.hid hf; clear hf
    go_wp2_with fail
    refine hK.out _ _ (by first | exact fun x hx => (HF.out.vars x hx).1 | exact fun x hx => (HF.out.vars x (.tail _ hx)).1 | exact fun x hx => (HF.out.vars x (.tail _ (.tail _ hx))).1 | exact fun x hx => (HF.out.vars x (.tail _ (.tail _ (.tail _ hx)))).1 | exact fun x hx => (HF.out.vars x (.tail _ (.tail _ (.tail _ (.tail _ hx))))).1 | exact fun x hx => (HF.out.vars x (.tail _ (.tail _ (.tail _ (.tail _ (.tail _ hx)))))).1) (fun hHeld => ?_)
    clear hK K
    try simp only [Act.put, lay1, lay2, lay3]
    refine wpAnyH_take (i := 18) (oi := ⟨some 56, Op.unOp UnOp.not 4 (Operand.tmp 55), _, _, _, _⟩) (v := ?v61) rfl (by kernel_rfl) (by kernel_rfl) (by kernel_rfl) (fun _ _ _ h => h) (Or.inl ⟨by rfl, ?hy61⟩) (by assumption) ?rest61
    case hy61 => ((intro w0 hSw; go_simp); try (with_reducible rfl))
    try simp only [Act.put, lay1, lay2, lay3]
    refine wpAnyH_take (i := 19) (oi := ⟨some 57, Op.pick (Operand.tmp 52) (Operand.const (Value.bool true)) (Operand.tmp 56), _, _, _, _⟩) (v := ?v62) rfl (by kernel_rfl) (by kernel_rfl) (by kernel_rfl) (fun _ _ _ h => h) (Or.inl ⟨by rfl, ?hy62⟩) (by assumption) ?rest62
    case hy62 => ((intro w0 hSw; go_simp); try (with_reducible rfl))
    try simp only [Act.put, lay1, lay2, lay3]
    refine wpAnyH_take (i := 20) (oi := ⟨some 58, Op.move (Operand.tmp 57), _, _, _, _⟩) (v := ?v63) rfl (by kernel_rfl) (by kernel_rfl) (by kernel_rfl) (fun _ _ _ h => h) (Or.inl ⟨by rfl, ?hy63⟩) (by assumption) ?rest63
    case hy63 => ((intro w0 hSw; go_simp); try (with_reducible rfl))
    try simp only [Act.put, lay1, lay2, lay3]
    refine wpAnyH_take (i := 21) (oi := ⟨some 59, Op.move (Operand.tmp 1), _, _, _, _⟩) (v := ?v64) rfl (by kernel_rfl) (by kernel_rfl) (by kernel_rfl) (fun _ _ _ h => h) (Or.inl ⟨by rfl, ?hy64⟩) (by assumption) ?rest64
    case hy64 => ((intro w0 hSw; go_simp); try (with_reducible rfl))
    try simp only [Act.put, lay1, lay2, lay3]
    refine wpAnyH_ready (rs := [22]) (by kernel_rfl) (by simp) ?_
    refine AllReadyH.cons (o := ⟨some 60, Op.call { callee := Callee.value (Operand.func 10), args := #[Operand.const (Value.int IntKind.u8 11), Operand.const (Value.int IntKind.i64 0)], argTypes := #[5, 3] }, _, _, _, _⟩) rfl (fun K hK => ?_) AllReadyH.nil
    go_simp
    (with_reducible refine (up_any 11 0 _).mono ?_); rintro e wn32 ⟨rfl, hg⟩; replace HF := Lib.hid (HF.out.grown hg); clear hg
    go_wp2_with fail
    refine hK.out _ _ (by first | exact fun x hx => (HF.out.vars x hx).1 | exact fun x hx => (HF.out.vars x (.tail _ hx)).1 | exact fun x hx => (HF.out.vars x (.tail _ (.tail _ hx))).1 | exact fun x hx => (HF.out.vars x (.tail _ (.tail _ (.tail _ hx)))).1 | exact fun x hx => (HF.out.vars x (.tail _ (.tail _ (.tail _ (.tail _ hx))))).1 | exact fun x hx => (HF.out.vars x (.tail _ (.tail _ (.tail _ (.tail _ (.tail _ hx)))))).1) (fun hHeld => ?_)
    clear hK K
    try simp only [Act.put, lay1, lay2, lay3]
    refine wpAnyH_ready (rs := [23]) (by kernel_rfl) (by simp) ?_
    refine AllReadyH.cons (o := ⟨some 61, Op.call { callee := Callee.value (Operand.func 9), args := #[Operand.const (Value.int IntKind.u8 5), Operand.const (Value.int IntKind.i64 0)], argTypes := #[5, 3] }, _, _, _, _⟩) rfl (fun K hK => ?_) AllReadyH.nil
    go_simp
    (with_reducible refine (down_any 5 0 _).mono ?_); rintro e wn33 ⟨rfl, hg⟩; replace HF := Lib.hid (HF.out.grown hg); clear hg
    go_wp2_with fail
    refine hK.out _ _ (by first | exact fun x hx => (HF.out.vars x hx).1 | exact fun x hx => (HF.out.vars x (.tail _ hx)).1 | exact fun x hx => (HF.out.vars x (.tail _ (.tail _ hx))).1 | exact fun x hx => (HF.out.vars x (.tail _ (.tail _ (.tail _ hx)))).1 | exact fun x hx => (HF.out.vars x (.tail _ (.tail _ (.tail _ (.tail _ hx))))).1 | exact fun x hx => (HF.out.vars x (.tail _ (.tail _ (.tail _ (.tail _ (.tail _ hx)))))).1) (fun hHeld => ?_)
    clear hK K
    try simp only [Act.put, lay1, lay2, lay3]
    refine wpAnyH_ready (rs := [24]) (by kernel_rfl) (by simp) ?_
    refine AllReadyH.cons (o := ⟨some 62, Op.buildSlice 42 1 #[(0, (Operand.tmp 61))], _, _, _, _⟩) rfl (fun K hK => ?_) AllReadyH.nil
    go_simp
    obtain ⟨wn34, hn⟩ : ∃ w', wn33.alloc (.cells (na (dnn 5 0)) 31) = w' := ⟨_, rfl⟩
    obtain ⟨S2, hm⟩ : ∃ B, wn33.heap.size = B := ⟨_, rfl⟩
    replace HF := Lib.hid (HF.out.var (w2 := wn34) (B := S2) (x := (dnn 5 0)) (by rw [← hn]; exact grown_alloc (grown_refl _ _) _) (Nat.le_of_eq hm) (by rw [← hn, ← hm]; exact heap_alloc_new _ _))
    rw [hn, hm]
    clear hn hm
    refine hK.out _ _ (by first | exact fun x hx => (HF.out.vars x hx).1 | exact fun x hx => (HF.out.vars x (.tail _ hx)).1 | exact fun x hx => (HF.out.vars x (.tail _ (.tail _ hx))).1 | exact fun x hx => (HF.out.vars x (.tail _ (.tail _ (.tail _ hx)))).1 | exact fun x hx => (HF.out.vars x (.tail _ (.tail _ (.tail _ (.tail _ hx))))).1 | exact fun x hx => (HF.out.vars x (.tail _ (.tail _ (.tail _ (.tail _ (.tail _ hx)))))).1) (fun hHeld => ?_)
    clear hK K
    try simp only [Act.put, lay1, lay2, lay3]
    refine wpAnyH_ready (rs := [25]) (by kernel_rfl) (by simp) ?_
    refine AllReadyH.cons (o := ⟨some 63, Op.call { callee := Callee.value (Operand.func 12), args := #[(Operand.tmp 59), (Operand.tmp 60), (Operand.tmp 62)], argTypes := #[22, 31, 42] }, _, _, _, _⟩) rfl (fun K hK => ?_) AllReadyH.nil
    go_simp
    (with_reducible refine (HF.out.one HT.out (upn 11 0) (wup _ _) S2 (dnn 5 0) (by simp) g3).mono ?_); rintro e wn35 ⟨rfl, Fwn35, hf⟩; replace HF : Hid (Fl w wn35 h Fwn35 w3' _) := Lib.hid hf; clear hf
    go_wp2_with fail
    refine hK.out _ _ (by first | exact fun x hx => (HF.out.vars x hx).1 | exact fun x hx => (HF.out.vars x (.tail _ hx)).1 | exact fun x hx => (HF.out.vars x (.tail _ (.tail _ hx))).1 | exact fun x hx => (HF.out.vars x (.tail _ (.tail _ (.tail _ hx)))).1 | exact fun x hx => (HF.out.vars x (.tail _ (.tail _ (.tail _ (.tail _ hx))))).1 | exact fun x hx => (HF.out.vars x (.tail _ (.tail _ (.tail _ (.tail _ (.tail _ hx)))))).1) (fun hHeld => ?_)
    clear hK K
    try simp only [Act.put, lay1, lay2, lay3]
    refine wpAnyH_take (i := 26) (oi := ⟨some 64, Op.unOp UnOp.not 4 (Operand.tmp 63), _, _, _, _⟩) (v := ?v65) rfl (by kernel_rfl) (by kernel_rfl) (by kernel_rfl) (fun _ _ _ h => h) (Or.inl ⟨by rfl, ?hy65⟩) (by assumption) ?rest65
    case hy65 => ((intro w0 hSw; go_simp); try (with_reducible rfl))
    try simp only [Act.put, lay1, lay2, lay3]
    refine wpAnyH_take (i := 27) (oi := ⟨some 65, Op.pick (Operand.tmp 58) (Operand.const (Value.bool true)) (Operand.tmp 64), _, _, _, _⟩) (v := ?v66) rfl (by kernel_rfl) (by kernel_rfl) (by kernel_rfl) (fun _ _ _ h => h) (Or.inl ⟨by rfl, ?hy66⟩) (by assumption) ?rest66
    case hy66 => ((intro w0 hSw; go_simp); try (with_reducible rfl))
    try simp only [Act.put, lay1, lay2, lay3]
    refine wpAnyH_take (i := 28) (oi := ⟨some 66, Op.move (Operand.tmp 65), _, _, _, _⟩) (v := ?v67) rfl (by kernel_rfl) (by kernel_rfl) (by kernel_rfl) (fun _ _ _ h => h) (Or.inl ⟨by rfl, ?hy67⟩) (by assumption) ?rest67
    case hy67 => ((intro w0 hSw; go_simp); try (with_reducible rfl))
    try simp only [Act.put, lay1, lay2, lay3]
    refine wpAnyH_take (i := 29) (oi := ⟨some 67, Op.move (Operand.tmp 1), _, _, _, _⟩) (v := ?v68) rfl (by kernel_rfl) (by kernel_rfl) (by kernel_rfl) (fun _ _ _ h => h) (Or.inl ⟨by rfl, ?hy68⟩) (by assumption) ?rest68
    case hy68 => ((intro w0 hSw; go_simp); try (with_reducible rfl))
    try simp only [Act.put, lay1, lay2, lay3]
    refine wpAnyH_take (i := 30) (oi := ⟨some 68, Op.load t' (Operand.tmp 5), _, _, _, _⟩) (v := ?v69) rfl (by kernel_rfl) (by kernel_rfl) (by kernel_rfl) (fun _ _ _ h => h) (Or.inl ⟨by rfl, ?hy69⟩) (by assumption) ?rest69
    case hy69 => ((intro w0 hSw; have hs1 := HLD.out B5 (ack0) w0 (tt.range_of (hSw (B5, ack0) (by simp))); go_simp); try (with_reducible rfl))
    try simp only [Act.put, lay1, lay2, lay3]
    refine wpAnyH_take (i := 31) (oi := ⟨some 69, Op.load t' (Operand.tmp 4), _, _, _, _⟩) (v := ?v70) rfl (by kernel_rfl) (by kernel_rfl) (by kernel_rfl) (fun _ _ _ h => h) (Or.inl ⟨by rfl, ?hy70⟩) (by assumption) ?rest70
    case hy70 => ((intro w0 hSw; have hs1 := HLD.out B4 (b0) w0 (tt.range_of (hSw (B4, b0) (by simp))); go_simp); try (with_reducible rfl))
    try simp only [Act.put, lay1, lay2, lay3]
    refine wpAnyH_ready (rs := [32]) (by kernel_rfl) (by simp) ?_
    refine AllReadyH.cons (o := ⟨some 70, Op.buildSlice 42 1 #[(0, (Operand.tmp 69))], _, _, _, _⟩) rfl (fun K hK => ?_) AllReadyH.nil
    go_simp
    obtain ⟨wn36, hn⟩ : ∃ w', wn35.alloc (.cells (na b0) 31) = w' := ⟨_, rfl⟩
    obtain ⟨S3, hm⟩ : ∃ B, wn35.heap.size = B := ⟨_, rfl⟩
    replace HF := Lib.hid (HF.out.var (w2 := wn36) (B := S3) (x := b0) (by rw [← hn]; exact grown_alloc (grown_refl _ _) _) (Nat.le_of_eq hm) (by rw [← hn, ← hm]; exact heap_alloc_new _ _))
    rw [hn, hm]
    clear hn hm
    refine hK.out _ _ (by first | exact fun x hx => (HF.out.vars x hx).1 | exact fun x hx => (HF.out.vars x (.tail _ hx)).1 | exact fun x hx => (HF.out.vars x (.tail _ (.tail _ hx))).1 | exact fun x hx => (HF.out.vars x (.tail _ (.tail _ (.tail _ hx)))).1 | exact fun x hx => (HF.out.vars x (.tail _ (.tail _ (.tail _ (.tail _ hx))))).1 | exact fun x hx => (HF.out.vars x (.tail _ (.tail _ (.tail _ (.tail _ (.tail _ hx)))))).1) (fun hHeld => ?_)
    clear hK K
    try simp only [Act.put, lay1, lay2, lay3]
    refine wpAnyH_ready (rs := [33]) (by kernel_rfl) (by simp) ?_
    refine AllReadyH.cons (o := ⟨some 71, Op.call { callee := Callee.value (Operand.func 12), args := #[(Operand.tmp 67), (Operand.tmp 68), (Operand.tmp 70)], argTypes := #[22, 31, 42] }, _, _, _, _⟩) rfl (fun K hK => ?_) AllReadyH.nil
    go_simp
    (with_reducible refine (HF.out.one HT.out ack0 wack S3 b0 (by simp) g4).mono ?_); rintro e wn37 ⟨rfl, Fwn37, hf⟩; replace HF : Hid (Fl w wn37 h Fwn37 w4' _) := Lib.hid hf; clear hf
    go_wp2_with fail
    refine hK.out _ _ (by first | exact fun x hx => (HF.out.vars x hx).1 | exact fun x hx => (HF.out.vars x (.tail _ hx)).1 | exact fun x hx => (HF.out.vars x (.tail _ (.tail _ hx))).1 | exact fun x hx => (HF.out.vars x (.tail _ (.tail _ (.tail _ hx)))).1 | exact fun x hx => (HF.out.vars x (.tail _ (.tail _ (.tail _ (.tail _ hx))))).1 | exact fun x hx => (HF.out.vars x (.tail _ (.tail _ (.tail _ (.tail _ (.tail _ hx)))))).1) (fun hHeld => ?_)
    clear hK K
    try simp only [Act.put, lay1, lay2, lay3]
    refine wpAnyH_take (i := 34) (oi := ⟨some 72, Op.unOp UnOp.not 4 (Operand.tmp 71), _, _, _, _⟩) (v := ?v71) rfl (by kernel_rfl) (by kernel_rfl) (by kernel_rfl) (fun _ _ _ h => h) (Or.inl ⟨by rfl, ?hy71⟩) (by assumption) ?rest71
    case hy71 => ((intro w0 hSw; go_simp); try (with_reducible rfl))
    try simp only [Act.put, lay1, lay2, lay3]
    refine wpAnyH_take (i := 35) (oi := ⟨some 73, Op.pick (Operand.tmp 66) (Operand.const (Value.bool true)) (Operand.tmp 72), _, _, _, _⟩) (v := ?v72) rfl (by kernel_rfl) (by kernel_rfl) (by kernel_rfl) (fun _ _ _ h => h) (Or.inl ⟨by rfl, ?hy72⟩) (by assumption) ?rest72
    case hy72 => ((intro w0 hSw; go_simp); try (with_reducible rfl))
    try simp only [Act.put, lay1, lay2, lay3]
    refine wpAnyH_take (i := 36) (oi := ⟨some 74, Op.move (Operand.tmp 73), _, _, _, _⟩) (v := ?v73) rfl (by kernel_rfl) (by kernel_rfl) (by kernel_rfl) (fun _ _ _ h => h) (Or.inl ⟨by rfl, ?hy73⟩) (by assumption) ?rest73
    case hy73 => ((intro w0 hSw; go_simp); try (with_reducible rfl))
    try simp only [Act.put, lay1, lay2, lay3]
    refine wpAnyH_take (i := 37) (oi := ⟨some 75, Op.move (Operand.tmp 1), _, _, _, _⟩) (v := ?v74) rfl (by kernel_rfl) (by kernel_rfl) (by kernel_rfl) (fun _ _ _ h => h) (Or.inl ⟨by rfl, ?hy74⟩) (by assumption) ?rest74
    case hy74 => ((intro w0 hSw; go_simp); try (with_reducible rfl))
    try simp only [Act.put, lay1, lay2, lay3]
    refine wpAnyH_ready (rs := [38]) (by kernel_rfl) (by simp) ?_
    refine AllReadyH.cons (o := ⟨some 76, Op.call { callee := Callee.value (Operand.func 10), args := #[Operand.const (Value.int IntKind.u8 11), Operand.const (Value.int IntKind.i64 1)], argTypes := #[5, 3] }, _, _, _, _⟩) rfl (fun K hK => ?_) AllReadyH.nil
    go_simp
    (with_reducible refine (up_any 11 1 _).mono ?_); rintro e wn38 ⟨rfl, hg⟩; replace HF := Lib.hid (HF.out.grown hg); clear hg
    go_wp2_with fail
    refine hK.out _ _ (by first | exact fun x hx => (HF.out.vars x hx).1 | exact fun x hx => (HF.out.vars x (.tail _ hx)).1 | exact fun x hx => (HF.out.vars x (.tail _ (.tail _ hx))).1 | exact fun x hx => (HF.out.vars x (.tail _ (.tail _ (.tail _ hx)))).1 | exact fun x hx => (HF.out.vars x (.tail _ (.tail _ (.tail _ (.tail _ hx))))).1 | exact fun x hx => (HF.out.vars x (.tail _ (.tail _ (.tail _ (.tail _ (.tail _ hx)))))).1) (fun hHeld => ?_)
    clear hK K
    try simp only [Act.put, lay1, lay2, lay3]
    refine wpAnyH_ready (rs := [39]) (by kernel_rfl) (by simp) ?_
    refine AllReadyH.cons (o := ⟨some 77, Op.call { callee := Callee.value (Operand.func 12), args := #[(Operand.tmp 75), (Operand.tmp 76), Operand.const (Value.slice none 0 0)], argTypes := #[22, 31, 42] }, _, _, _, _⟩) rfl (fun K hK => ?_) AllReadyH.nil
    go_simp
    (with_reducible refine (HF.out.none HT.out (upn 11 1) (wup _ _) g5).mono ?_); rintro e wn39 ⟨rfl, Fwn39, hf⟩; replace HF : Hid (Fl w wn39 h Fwn39 w5' _) := Lib.hid hf; clear hf
    go_wp2_with fail
    refine hK.out _ _ (by first | exact fun x hx => (HF.out.vars x hx).1 | exact fun x hx => (HF.out.vars x (.tail _ hx)).1 | exact fun x hx => (HF.out.vars x (.tail _ (.tail _ hx))).1 | exact fun x hx => (HF.out.vars x (.tail _ (.tail _ (.tail _ hx)))).1 | exact fun x hx => (HF.out.vars x (.tail _ (.tail _ (.tail _ (.tail _ hx))))).1 | exact fun x hx => (HF.out.vars x (.tail _ (.tail _ (.tail _ (.tail _ (.tail _ hx)))))).1) (fun hHeld => ?_)
    clear hK K
    try simp only [Act.put, lay1, lay2, lay3]
    refine wpAnyH_take (i := 40) (oi := ⟨some 78, Op.unOp UnOp.not 4 (Operand.tmp 77), _, _, _, _⟩) (v := ?v75) rfl (by kernel_rfl) (by kernel_rfl) (by kernel_rfl) (fun _ _ _ h => h) (Or.inl ⟨by rfl, ?hy75⟩) (by assumption) ?rest75
    case hy75 => ((intro w0 hSw; go_simp); try (with_reducible rfl))
    try simp only [Act.put, lay1, lay2, lay3]
    refine wpAnyH_take (i := 41) (oi := ⟨some 79, Op.pick (Operand.tmp 74) (Operand.const (Value.bool true)) (Operand.tmp 78), _, _, _, _⟩) (v := ?v76) rfl (by kernel_rfl) (by kernel_rfl) (by kernel_rfl) (fun _ _ _ h => h) (Or.inl ⟨by rfl, ?hy76⟩) (by assumption) ?rest76
    case hy76 => ((intro w0 hSw; go_simp); try (with_reducible rfl))
    try simp only [Act.put, lay1, lay2, lay3]
    refine wpAnyH_done (by kernel_rfl) ?_ _
    go_wp2_with fail
    rw [HTT.out]
    refine wp_region_held_drew (S := fun w' => ∀ x ∈ [(B8, dnn 4 1), (B7, nack0), (B6, ref0), (B5, ack0), (B4, b0), (B3, a0)], w'.heap[x.1]? = some (.cells (na x.2) 31 (0, 0))) (by kernel_rfl) (by first | exact fun x hx => ((HF.out.grown (tt.grown_drew (grown_refl _ _))).vars x hx).1 | exact fun x hx => ((HF.out.grown (tt.grown_drew (grown_refl _ _))).vars x (.tail _ hx)).1 | exact fun x hx => ((HF.out.grown (tt.grown_drew (grown_refl _ _))).vars x (.tail _ (.tail _ hx))).1 | exact fun x hx => ((HF.out.grown (tt.grown_drew (grown_refl _ _))).vars x (.tail _ (.tail _ (.tail _ hx)))).1 | exact fun x hx => ((HF.out.grown (tt.grown_drew (grown_refl _ _))).vars x (.tail _ (.tail _ (.tail _ (.tail _ hx))))).1 | exact fun x hx => ((HF.out.grown (tt.grown_drew (grown_refl _ _))).vars x (.tail _ (.tail _ (.tail _ (.tail _ (.tail _ hx)))))).1) (fun hHeld => ?_)
    replace HF := Lib.hid (HF.out.grown (tt.grown_drew (grown_refl _ _)))
    generalize World.drew _ = wd39 at hHeld HF ⊢
    refine wpAnyH_take (i := 0) (oi := ⟨some 80, Op.move (Operand.tmp 1), _, _, _, _⟩) (v := ?v77) rfl (by kernel_rfl) (by kernel_rfl) (by kernel_rfl) (fun _ _ _ h => h) (Or.inl ⟨by rfl, ?hy77⟩) (by assumption) ?rest77
    case hy77 => ((intro w0 hSw; go_simp); try (with_reducible rfl))
    try simp only [Act.put, lay1, lay2, lay3]
    refine wpAnyH_take (i := 2) (oi := ⟨some 82, Op.load t' (Operand.tmp 8), _, _, _, _⟩) (v := ?v78) rfl (by kernel_rfl) (by kernel_rfl) (by kernel_rfl) (fun _ _ _ h => h) (Or.inl ⟨by rfl, ?hy78⟩) (by assumption) ?rest78
    case hy78 => ((intro w0 hSw; have hs1 := HLD.out B8 (dnn 4 1) w0 (tt.range_of (hSw (B8, dnn 4 1) (by simp))); go_simp); try (with_reducible rfl))
    try simp only [Act.put, lay1, lay2, lay3]
    refine wpAnyH_ready (rs := [1, 3]) (by kernel_rfl) (by simp) ?_
    refine AllReadyH.cons (o := ⟨some 81, Op.call { callee := Callee.value (Operand.func 10), args := #[Operand.const (Value.int IntKind.u8 1), Operand.const (Value.int IntKind.i64 0)], argTypes := #[5, 3] }, _, _, _, _⟩) rfl (fun K hK => ?_) (AllReadyH.cons (o := ⟨some 83, Op.buildSlice 42 1 #[(0, (Operand.tmp 82))], _, _, _, _⟩) rfl (fun K hK => ?_) AllReadyH.nil)
    · skip
      go_simp
      (with_reducible refine (up_any 1 0 _).mono ?_); rintro e wn40 ⟨rfl, hg⟩; replace HF := Lib.hid (HF.out.grown hg); clear hg
      go_wp2_with fail
      refine hK.out _ _ (by first | exact fun x hx => (HF.out.vars x hx).1 | exact fun x hx => (HF.out.vars x (.tail _ hx)).1 | exact fun x hx => (HF.out.vars x (.tail _ (.tail _ hx))).1 | exact fun x hx => (HF.out.vars x (.tail _ (.tail _ (.tail _ hx)))).1 | exact fun x hx => (HF.out.vars x (.tail _ (.tail _ (.tail _ (.tail _ hx))))).1 | exact fun x hx => (HF.out.vars x (.tail _ (.tail _ (.tail _ (.tail _ (.tail _ hx)))))).1) (fun hHeld => ?_)
      clear hK K
      try simp only [Act.put, lay1, lay2, lay3]
      refine wpAnyH_ready (rs := [3]) (by kernel_rfl) (by simp) ?_
      refine AllReadyH.cons (o := ⟨some 83, Op.buildSlice 42 1 #[(0, (Operand.tmp 82))], _, _, _, _⟩) rfl (fun K hK => ?_) AllReadyH.nil
      go_simp
      obtain ⟨wn41, hn⟩ : ∃ w', wn40.alloc (.cells (na (dnn 4 1)) 31) = w' := ⟨_, rfl⟩
      obtain ⟨S4, hm⟩ : ∃ B, wn40.heap.size = B := ⟨_, rfl⟩
      replace HF := Lib.hid (HF.out.var (w2 := wn41) (B := S4) (x := (dnn 4 1)) (by rw [← hn]; exact grown_alloc (grown_refl _ _) _) (Nat.le_of_eq hm) (by rw [← hn, ← hm]; exact heap_alloc_new _ _))
      rw [hn, hm]
      clear hn hm
      refine hK.out _ _ (by first | exact fun x hx => (HF.out.vars x hx).1 | exact fun x hx => (HF.out.vars x (.tail _ hx)).1 | exact fun x hx => (HF.out.vars x (.tail _ (.tail _ hx))).1 | exact fun x hx => (HF.out.vars x (.tail _ (.tail _ (.tail _ hx)))).1 | exact fun x hx => (HF.out.vars x (.tail _ (.tail _ (.tail _ (.tail _ hx))))).1 | exact fun x hx => (HF.out.vars x (.tail _ (.tail _ (.tail _ (.tail _ (.tail _ hx)))))).1) (fun hHeld => ?_)
      clear hK K
      try simp only [Act.put, lay1, lay2, lay3]
      refine wpAnyH_ready (rs := [4]) (by kernel_rfl) (by simp) ?_
      refine AllReadyH.cons (o := ⟨some 84, Op.call { callee := Callee.value (Operand.func 12), args := #[(Operand.tmp 80), (Operand.tmp 81), (Operand.tmp 83)], argTypes := #[22, 31, 42] }, _, _, _, _⟩) rfl (fun K hK => ?_) AllReadyH.nil
      go_simp
      (with_reducible refine (HF.out.one HT.out (upn 1 0) (wup _ _) S4 (dnn 4 1) (by simp) g6).mono ?_); rintro e wn42 ⟨rfl, Fwn42, hf⟩; replace HF : Hid (Fl w wn42 h Fwn42 w6' _) := Lib.hid hf; clear hf
      go_wp2_with fail
      refine hK.out _ _ (by first | exact fun x hx => (HF.out.vars x hx).1 | exact fun x hx => (HF.out.vars x (.tail _ hx)).1 | exact fun x hx => (HF.out.vars x (.tail _ (.tail _ hx))).1 | exact fun x hx => (HF.out.vars x (.tail _ (.tail _ (.tail _ hx)))).1 | exact fun x hx => (HF.out.vars x (.tail _ (.tail _ (.tail _ (.tail _ hx))))).1 | exact fun x hx => (HF.out.vars x (.tail _ (.tail _ (.tail _ (.tail _ (.tail _ hx)))))).1) (fun hHeld => ?_)
      clear hK K
      try simp only [Act.put, lay1, lay2, lay3]
      refine wpAnyH_take (i := 5) (oi := ⟨some 85, Op.unOp UnOp.not 4 (Operand.tmp 84), _, _, _, _⟩) (v := ?v79) rfl (by kernel_rfl) (by kernel_rfl) (by kernel_rfl) (fun _ _ _ h => h) (Or.inl ⟨by rfl, ?hy79⟩) (by assumption) ?rest79
      case hy79 => ((intro w0 hSw; go_simp); try (with_reducible rfl))
      try simp only [Act.put, lay1, lay2, lay3]
      refine wpAnyH_take (i := 6) (oi := ⟨some 86, Op.move (Operand.tmp 85), _, _, _, _⟩) (v := ?v80) rfl (by kernel_rfl) (by kernel_rfl) (by kernel_rfl) (fun _ _ _ h => h) (Or.inl ⟨by rfl, ?hy80⟩) (by assumption) ?rest80
      case hy80 => ((intro w0 hSw; go_simp); try (with_reducible rfl))
      try simp only [Act.put, lay1, lay2, lay3]
      refine wpAnyH_take (i := 7) (oi := ⟨some 87, Op.move (Operand.tmp 1), _, _, _, _⟩) (v := ?v81) rfl (by kernel_rfl) (by kernel_rfl) (by kernel_rfl) (fun _ _ _ h => h) (Or.inl ⟨by rfl, ?hy81⟩) (by assumption) ?rest81
      case hy81 => ((intro w0 hSw; go_simp); try (with_reducible rfl))
      try simp only [Act.put, lay1, lay2, lay3]
      refine wpAnyH_take (i := 8) (oi := ⟨some 88, Op.load t' (Operand.tmp 6), _, _, _, _⟩) (v := ?v82) rfl (by kernel_rfl) (by kernel_rfl) (by kernel_rfl) (fun _ _ _ h => h) (Or.inl ⟨by rfl, ?hy82⟩) (by assumption) ?rest82
      case hy82 => ((intro w0 hSw; have hs1 := HLD.out B6 (ref0) w0 (tt.range_of (hSw (B6, ref0) (by simp))); go_simp); try (with_reducible rfl))
      try simp only [Act.put, lay1, lay2, lay3]
      refine wpAnyH_take (i := 9) (oi := ⟨some 89, Op.load t' (Operand.tmp 7), _, _, _, _⟩) (v := ?v83) rfl (by kernel_rfl) (by kernel_rfl) (by kernel_rfl) (fun _ _ _ h => h) (Or.inl ⟨by rfl, ?hy83⟩) (by assumption) ?rest83
      case hy83 => ((intro w0 hSw; have hs1 := HLD.out B7 (nack0) w0 (tt.range_of (hSw (B7, nack0) (by simp))); go_simp); try (with_reducible rfl))
      try simp only [Act.put, lay1, lay2, lay3]
      refine wpAnyH_ready (rs := [10]) (by kernel_rfl) (by simp) ?_
      refine AllReadyH.cons (o := ⟨some 90, Op.buildSlice 42 1 #[(0, (Operand.tmp 89))], _, _, _, _⟩) rfl (fun K hK => ?_) AllReadyH.nil
      go_simp
      obtain ⟨wn43, hn⟩ : ∃ w', wn42.alloc (.cells (na nack0) 31) = w' := ⟨_, rfl⟩
      obtain ⟨S5, hm⟩ : ∃ B, wn42.heap.size = B := ⟨_, rfl⟩
      replace HF := Lib.hid (HF.out.var (w2 := wn43) (B := S5) (x := nack0) (by rw [← hn]; exact grown_alloc (grown_refl _ _) _) (Nat.le_of_eq hm) (by rw [← hn, ← hm]; exact heap_alloc_new _ _))
      rw [hn, hm]
      clear hn hm
      refine hK.out _ _ (by first | exact fun x hx => (HF.out.vars x hx).1 | exact fun x hx => (HF.out.vars x (.tail _ hx)).1 | exact fun x hx => (HF.out.vars x (.tail _ (.tail _ hx))).1 | exact fun x hx => (HF.out.vars x (.tail _ (.tail _ (.tail _ hx)))).1 | exact fun x hx => (HF.out.vars x (.tail _ (.tail _ (.tail _ (.tail _ hx))))).1 | exact fun x hx => (HF.out.vars x (.tail _ (.tail _ (.tail _ (.tail _ (.tail _ hx)))))).1) (fun hHeld => ?_)
      clear hK K
      try simp only [Act.put, lay1, lay2, lay3]
      refine wpAnyH_ready (rs := [11]) (by kernel_rfl) (by simp) ?_
      refine AllReadyH.cons (o := ⟨some 91, Op.call { callee := Callee.value (Operand.func 12), args := #[(Operand.tmp 87), (Operand.tmp 88), (Operand.tmp 90)], argTypes := #[22, 31, 42] }, _, _, _, _⟩) rfl (fun K hK => ?_) AllReadyH.nil
      go_simp
      (with_reducible refine (HF.out.one HT.out ref0 wref S5 nack0 (by simp) g7).mono ?_); rintro e wn44 ⟨rfl, Fwn44, hf⟩; replace HF : Hid (Fl w wn44 h Fwn44 w7' _) := Lib.hid hf; clear hf
      go_wp2_with fail
      refine hK.out _ _ (by first | exact fun x hx => (HF.out.vars x hx).1 | exact fun x hx => (HF.out.vars x (.tail _ hx)).1 | exact fun x hx => (HF.out.vars x (.tail _ (.tail _ hx))).1 | exact fun x hx => (HF.out.vars x (.tail _ (.tail _ (.tail _ hx)))).1 | exact fun x hx => (HF.out.vars x (.tail _ (.tail _ (.tail _ (.tail _ hx))))).1 | exact fun x hx => (HF.out.vars x (.tail _ (.tail _ (.tail _ (.tail _ (.tail _ hx)))))).1) (fun hHeld => ?_)
      clear hK K
      try simp only [Act.put, lay1, lay2, lay3]
      refine wpAnyH_take (i := 12) (oi := ⟨some 92, Op.unOp UnOp.not 4 (Operand.tmp 91), _, _, _, _⟩) (v := ?v84) rfl (by kernel_rfl) (by kernel_rfl) (by kernel_rfl) (fun _ _ _ h => h) (Or.inl ⟨by rfl, ?hy84⟩) (by assumption) ?rest84
      case hy84 => ((intro w0 hSw; go_simp); try (with_reducible rfl))
      try simp only [Act.put, lay1, lay2, lay3]
      refine wpAnyH_take (i := 13) (oi := ⟨some 93, Op.pick (Operand.tmp 86) (Operand.const (Value.bool true)) (Operand.tmp 92), _, _, _, _⟩) (v := ?v85) rfl (by kernel_rfl) (by kernel_rfl) (by kernel_rfl) (fun _ _ _ h => h) (Or.inl ⟨by rfl, ?hy85⟩) (by assumption) ?rest85
      case hy85 => ((intro w0 hSw; go_simp); try (with_reducible rfl))
      try simp only [Act.put, lay1, lay2, lay3]
      refine wpAnyH_take (i := 14) (oi := ⟨some 94, Op.move (Operand.tmp 93), _, _, _, _⟩) (v := ?v86) rfl (by kernel_rfl) (by kernel_rfl) (by kernel_rfl) (fun _ _ _ h => h) (Or.inl ⟨by rfl, ?hy86⟩) (by assumption) ?rest86
      case hy86 => ((intro w0 hSw; go_simp); try (with_reducible rfl))
      try simp only [Act.put, lay1, lay2, lay3]
      refine wpAnyH_take (i := 15) (oi := ⟨some 95, Op.move (Operand.tmp 1), _, _, _, _⟩) (v := ?v87) rfl (by kernel_rfl) (by kernel_rfl) (by kernel_rfl) (fun _ _ _ h => h) (Or.inl ⟨by rfl, ?hy87⟩) (by assumption) ?rest87
      case hy87 => ((intro w0 hSw; go_simp); try (with_reducible rfl))
      try simp only [Act.put, lay1, lay2, lay3]
      refine wpAnyH_ready (rs := [16]) (by kernel_rfl) (by simp) ?_
      refine AllReadyH.cons (o := ⟨some 96, Op.call { callee := Callee.value (Operand.func 13), args := #[(Operand.tmp 95), Operand.const (Value.int IntKind.i64 5)], argTypes := #[22, 3] }, _, _, _, _⟩) rfl (fun K hK => ?_) AllReadyH.nil
      go_simp
      have hbu := own_busy HF.out.own 5
      rw [g7b] at hbu
      (refine (Calls.mono hbu ?_)); rintro e wn45 ⟨rfl, hg⟩; replace HF := Lib.hid (HF.out.grown hg); clear hg hbu
      go_wp2_with fail
      refine hK.out _ _ (by first | exact fun x hx => (HF.out.vars x hx).1 | exact fun x hx => (HF.out.vars x (.tail _ hx)).1 | exact fun x hx => (HF.out.vars x (.tail _ (.tail _ hx))).1 | exact fun x hx => (HF.out.vars x (.tail _ (.tail _ (.tail _ hx)))).1 | exact fun x hx => (HF.out.vars x (.tail _ (.tail _ (.tail _ (.tail _ hx))))).1 | exact fun x hx => (HF.out.vars x (.tail _ (.tail _ (.tail _ (.tail _ (.tail _ hx)))))).1) (fun hHeld => ?_)
      clear hK K
      try simp only [Act.put, lay1, lay2, lay3]
      refine wpAnyH_take (i := 17) (oi := ⟨some 97, Op.pick (Operand.tmp 94) (Operand.const (Value.bool true)) (Operand.tmp 96), _, _, _, _⟩) (v := ?v88) rfl (by kernel_rfl) (by kernel_rfl) (by kernel_rfl) (fun _ _ _ h => h) (Or.inl ⟨by rfl, ?hy88⟩) (by assumption) ?rest88
      case hy88 => ((intro w0 hSw; go_simp); try (with_reducible rfl))
      try simp only [Act.put, lay1, lay2, lay3]
      refine wpAnyH_done (by kernel_rfl) ?_ _
      try rw [← HTT.out]
      go_wp2_with (first
        | (go_at_call 15; ((with_reducible refine (two_any _).mono ?_); rintro e v1 ⟨rfl, hg⟩; replace HF := Lib.hid (HF.out.grown hg); clear hg))
        | (go_at_call 14; ((with_reducible refine (new_nil c2 _).mono ?_); rintro e v2 ⟨rfl, hg⟩; replace HF := Lib.hid (HF.out.grown hg); clear hg))
        | (go_at_call 16; ((with_reducible refine (take_nil a0 _).mono ?_); rintro e v3 ⟨rfl, hg⟩; replace HF := Lib.hid (HF.out.grown hg); clear hg))
        | (go_at_call 17; ((with_reducible refine (entry_nil _ _).mono ?_); rintro e v4 ⟨rfl, hg⟩; replace HF := Lib.hid (HF.out.grown hg); clear hg; replace HF := Lib.hid (HF.out.grown (grown_alloc (grown_refl _ _) (.cells #[.int .i64 0, .int .u32 0] 47)))))
        | ((with_reducible refine load_gd a0 3 B3 ?_ ?_ (tt.range_of (HF.out.vars (B3, a0) (by simp)).1) ?_); (rfl); (rfl))
        | ((with_reducible refine wp_load_mid 31 (.tmp 3) rfl B3 0 ?_ (nt a0) _ (tt.range_of (HF.out.vars (B3, a0) (by simp)).1) Tryd.underlying31 rfl (tt.info31' a0) ?_); (rfl))
        | ((with_reducible refine tt.load_nt a0 _ B3 ?_ (tt.range_of (HF.out.vars (B3, a0) (by simp)).1) ?_); (rfl))
        | (go_at_call 18; ((with_reducible refine (ready_nil a0 _).mono ?_); rintro e v5 ⟨rfl, hg⟩; replace HF := Lib.hid (HF.out.grown hg); clear hg))
        | (go_at_call 13; ((with_reducible refine (busy_nil _ _).mono ?_); rintro e v6 ⟨rfl, rfl⟩))
        | (go_at_call 19; ((with_reducible refine (waits_nil _).mono ?_); rintro e v7 ⟨rfl, rfl⟩))
        | (go_at_call 20; ((with_reducible refine (copy_nil _).mono ?_); rintro e v8 ⟨rfl, rfl⟩)))
      go_ret
      exact ⟨rfl, HF.out.own.old⟩
    · skip
      go_simp
      obtain ⟨wn46, hn⟩ : ∃ w', wd39.alloc (.cells (na (dnn 4 1)) 31) = w' := ⟨_, rfl⟩
      obtain ⟨S4, hm⟩ : ∃ B, wd39.heap.size = B := ⟨_, rfl⟩
      replace HF := Lib.hid (HF.out.var (w2 := wn46) (B := S4) (x := (dnn 4 1)) (by rw [← hn]; exact grown_alloc (grown_refl _ _) _) (Nat.le_of_eq hm) (by rw [← hn, ← hm]; exact heap_alloc_new _ _))
      rw [hn, hm]
      clear hn hm
      refine hK.out _ _ (by first | exact fun x hx => (HF.out.vars x hx).1 | exact fun x hx => (HF.out.vars x (.tail _ hx)).1 | exact fun x hx => (HF.out.vars x (.tail _ (.tail _ hx))).1 | exact fun x hx => (HF.out.vars x (.tail _ (.tail _ (.tail _ hx)))).1 | exact fun x hx => (HF.out.vars x (.tail _ (.tail _ (.tail _ (.tail _ hx))))).1 | exact fun x hx => (HF.out.vars x (.tail _ (.tail _ (.tail _ (.tail _ (.tail _ hx)))))).1) (fun hHeld => ?_)
      clear hK K
      try simp only [Act.put, lay1, lay2, lay3]
      refine wpAnyH_ready (rs := [1]) (by kernel_rfl) (by simp) ?_
      refine AllReadyH.cons (o := ⟨some 81, Op.call { callee := Callee.value (Operand.func 10), args := #[Operand.const (Value.int IntKind.u8 1), Operand.const (Value.int IntKind.i64 0)], argTypes := #[5, 3] }, _, _, _, _⟩) rfl (fun K hK => ?_) AllReadyH.nil
      go_simp
      (with_reducible refine (up_any 1 0 _).mono ?_); rintro e wn47 ⟨rfl, hg⟩; replace HF := Lib.hid (HF.out.grown hg); clear hg
      go_wp2_with fail
      refine hK.out _ _ (by first | exact fun x hx => (HF.out.vars x hx).1 | exact fun x hx => (HF.out.vars x (.tail _ hx)).1 | exact fun x hx => (HF.out.vars x (.tail _ (.tail _ hx))).1 | exact fun x hx => (HF.out.vars x (.tail _ (.tail _ (.tail _ hx)))).1 | exact fun x hx => (HF.out.vars x (.tail _ (.tail _ (.tail _ (.tail _ hx))))).1 | exact fun x hx => (HF.out.vars x (.tail _ (.tail _ (.tail _ (.tail _ (.tail _ hx)))))).1) (fun hHeld => ?_)
      clear hK K
      try simp only [Act.put, lay1, lay2, lay3]
      refine wpAnyH_ready (rs := [4]) (by kernel_rfl) (by simp) ?_
      refine AllReadyH.cons (o := ⟨some 84, Op.call { callee := Callee.value (Operand.func 12), args := #[(Operand.tmp 80), (Operand.tmp 81), (Operand.tmp 83)], argTypes := #[22, 31, 42] }, _, _, _, _⟩) rfl (fun K hK => ?_) AllReadyH.nil
      go_simp
      (with_reducible refine (HF.out.one HT.out (upn 1 0) (wup _ _) S4 (dnn 4 1) (by simp) g6).mono ?_); rintro e wn48 ⟨rfl, Fwn48, hf⟩; replace HF : Hid (Fl w wn48 h Fwn48 w6' _) := Lib.hid hf; clear hf
      go_wp2_with fail
      refine hK.out _ _ (by first | exact fun x hx => (HF.out.vars x hx).1 | exact fun x hx => (HF.out.vars x (.tail _ hx)).1 | exact fun x hx => (HF.out.vars x (.tail _ (.tail _ hx))).1 | exact fun x hx => (HF.out.vars x (.tail _ (.tail _ (.tail _ hx)))).1 | exact fun x hx => (HF.out.vars x (.tail _ (.tail _ (.tail _ (.tail _ hx))))).1 | exact fun x hx => (HF.out.vars x (.tail _ (.tail _ (.tail _ (.tail _ (.tail _ hx)))))).1) (fun hHeld => ?_)
      clear hK K
      try simp only [Act.put, lay1, lay2, lay3]
      refine wpAnyH_take (i := 5) (oi := ⟨some 85, Op.unOp UnOp.not 4 (Operand.tmp 84), _, _, _, _⟩) (v := ?v89) rfl (by kernel_rfl) (by kernel_rfl) (by kernel_rfl) (fun _ _ _ h => h) (Or.inl ⟨by rfl, ?hy89⟩) (by assumption) ?rest89
      case hy89 => ((intro w0 hSw; go_simp); try (with_reducible rfl))
      try simp only [Act.put, lay1, lay2, lay3]
      refine wpAnyH_take (i := 6) (oi := ⟨some 86, Op.move (Operand.tmp 85), _, _, _, _⟩) (v := ?v90) rfl (by kernel_rfl) (by kernel_rfl) (by kernel_rfl) (fun _ _ _ h => h) (Or.inl ⟨by rfl, ?hy90⟩) (by assumption) ?rest90
      case hy90 => ((intro w0 hSw; go_simp); try (with_reducible rfl))
      try simp only [Act.put, lay1, lay2, lay3]
      refine wpAnyH_take (i := 7) (oi := ⟨some 87, Op.move (Operand.tmp 1), _, _, _, _⟩) (v := ?v91) rfl (by kernel_rfl) (by kernel_rfl) (by kernel_rfl) (fun _ _ _ h => h) (Or.inl ⟨by rfl, ?hy91⟩) (by assumption) ?rest91
      case hy91 => ((intro w0 hSw; go_simp); try (with_reducible rfl))
      try simp only [Act.put, lay1, lay2, lay3]
      refine wpAnyH_take (i := 8) (oi := ⟨some 88, Op.load t' (Operand.tmp 6), _, _, _, _⟩) (v := ?v92) rfl (by kernel_rfl) (by kernel_rfl) (by kernel_rfl) (fun _ _ _ h => h) (Or.inl ⟨by rfl, ?hy92⟩) (by assumption) ?rest92
      case hy92 => ((intro w0 hSw; have hs1 := HLD.out B6 (ref0) w0 (tt.range_of (hSw (B6, ref0) (by simp))); go_simp); try (with_reducible rfl))
      try simp only [Act.put, lay1, lay2, lay3]
      refine wpAnyH_take (i := 9) (oi := ⟨some 89, Op.load t' (Operand.tmp 7), _, _, _, _⟩) (v := ?v93) rfl (by kernel_rfl) (by kernel_rfl) (by kernel_rfl) (fun _ _ _ h => h) (Or.inl ⟨by rfl, ?hy93⟩) (by assumption) ?rest93
      case hy93 => ((intro w0 hSw; have hs1 := HLD.out B7 (nack0) w0 (tt.range_of (hSw (B7, nack0) (by simp))); go_simp); try (with_reducible rfl))
      try simp only [Act.put, lay1, lay2, lay3]
      refine wpAnyH_ready (rs := [10]) (by kernel_rfl) (by simp) ?_
      refine AllReadyH.cons (o := ⟨some 90, Op.buildSlice 42 1 #[(0, (Operand.tmp 89))], _, _, _, _⟩) rfl (fun K hK => ?_) AllReadyH.nil
      go_simp
      obtain ⟨wn49, hn⟩ : ∃ w', wn48.alloc (.cells (na nack0) 31) = w' := ⟨_, rfl⟩
      obtain ⟨S5, hm⟩ : ∃ B, wn48.heap.size = B := ⟨_, rfl⟩
      replace HF := Lib.hid (HF.out.var (w2 := wn49) (B := S5) (x := nack0) (by rw [← hn]; exact grown_alloc (grown_refl _ _) _) (Nat.le_of_eq hm) (by rw [← hn, ← hm]; exact heap_alloc_new _ _))
      rw [hn, hm]
      clear hn hm
      refine hK.out _ _ (by first | exact fun x hx => (HF.out.vars x hx).1 | exact fun x hx => (HF.out.vars x (.tail _ hx)).1 | exact fun x hx => (HF.out.vars x (.tail _ (.tail _ hx))).1 | exact fun x hx => (HF.out.vars x (.tail _ (.tail _ (.tail _ hx)))).1 | exact fun x hx => (HF.out.vars x (.tail _ (.tail _ (.tail _ (.tail _ hx))))).1 | exact fun x hx => (HF.out.vars x (.tail _ (.tail _ (.tail _ (.tail _ (.tail _ hx)))))).1) (fun hHeld => ?_)
      clear hK K
      try simp only [Act.put, lay1, lay2, lay3]
      refine wpAnyH_ready (rs := [11]) (by kernel_rfl) (by simp) ?_
      refine AllReadyH.cons (o := ⟨some 91, Op.call { callee := Callee.value (Operand.func 12), args := #[(Operand.tmp 87), (Operand.tmp 88), (Operand.tmp 90)], argTypes := #[22, 31, 42] }, _, _, _, _⟩) rfl (fun K hK => ?_) AllReadyH.nil
      go_simp
      (with_reducible refine (HF.out.one HT.out ref0 wref S5 nack0 (by simp) g7).mono ?_); rintro e wn50 ⟨rfl, Fwn50, hf⟩; replace HF : Hid (Fl w wn50 h Fwn50 w7' _) := Lib.hid hf; clear hf
      go_wp2_with fail
      refine hK.out _ _ (by first | exact fun x hx => (HF.out.vars x hx).1 | exact fun x hx => (HF.out.vars x (.tail _ hx)).1 | exact fun x hx => (HF.out.vars x (.tail _ (.tail _ hx))).1 | exact fun x hx => (HF.out.vars x (.tail _ (.tail _ (.tail _ hx)))).1 | exact fun x hx => (HF.out.vars x (.tail _ (.tail _ (.tail _ (.tail _ hx))))).1 | exact fun x hx => (HF.out.vars x (.tail _ (.tail _ (.tail _ (.tail _ (.tail _ hx)))))).1) (fun hHeld => ?_)
      clear hK K
      try simp only [Act.put, lay1, lay2, lay3]
      refine wpAnyH_take (i := 12) (oi := ⟨some 92, Op.unOp UnOp.not 4 (Operand.tmp 91), _, _, _, _⟩) (v := ?v94) rfl (by kernel_rfl) (by kernel_rfl) (by kernel_rfl) (fun _ _ _ h => h) (Or.inl ⟨by rfl, ?hy94⟩) (by assumption) ?rest94
      case hy94 => ((intro w0 hSw; go_simp); try (with_reducible rfl))
      try simp only [Act.put, lay1, lay2, lay3]
      refine wpAnyH_take (i := 13) (oi := ⟨some 93, Op.pick (Operand.tmp 86) (Operand.const (Value.bool true)) (Operand.tmp 92), _, _, _, _⟩) (v := ?v95) rfl (by kernel_rfl) (by kernel_rfl) (by kernel_rfl) (fun _ _ _ h => h) (Or.inl ⟨by rfl, ?hy95⟩) (by assumption) ?rest95
      case hy95 => ((intro w0 hSw; go_simp); try (with_reducible rfl))
      try simp only [Act.put, lay1, lay2, lay3]
      refine wpAnyH_take (i := 14) (oi := ⟨some 94, Op.move (Operand.tmp 93), _, _, _, _⟩) (v := ?v96) rfl (by kernel_rfl) (by kernel_rfl) (by kernel_rfl) (fun _ _ _ h => h) (Or.inl ⟨by rfl, ?hy96⟩) (by assumption) ?rest96
      case hy96 => ((intro w0 hSw; go_simp); try (with_reducible rfl))
      try simp only [Act.put, lay1, lay2, lay3]
      refine wpAnyH_take (i := 15) (oi := ⟨some 95, Op.move (Operand.tmp 1), _, _, _, _⟩) (v := ?v97) rfl (by kernel_rfl) (by kernel_rfl) (by kernel_rfl) (fun _ _ _ h => h) (Or.inl ⟨by rfl, ?hy97⟩) (by assumption) ?rest97
      case hy97 => ((intro w0 hSw; go_simp); try (with_reducible rfl))
      try simp only [Act.put, lay1, lay2, lay3]
      refine wpAnyH_ready (rs := [16]) (by kernel_rfl) (by simp) ?_
      refine AllReadyH.cons (o := ⟨some 96, Op.call { callee := Callee.value (Operand.func 13), args := #[(Operand.tmp 95), Operand.const (Value.int IntKind.i64 5)], argTypes := #[22, 3] }, _, _, _, _⟩) rfl (fun K hK => ?_) AllReadyH.nil
      go_simp
      have hbu := own_busy HF.out.own 5
      rw [g7b] at hbu
      (refine (Calls.mono hbu ?_)); rintro e wn51 ⟨rfl, hg⟩; replace HF := Lib.hid (HF.out.grown hg); clear hg hbu
      go_wp2_with fail
      refine hK.out _ _ (by first | exact fun x hx => (HF.out.vars x hx).1 | exact fun x hx => (HF.out.vars x (.tail _ hx)).1 | exact fun x hx => (HF.out.vars x (.tail _ (.tail _ hx))).1 | exact fun x hx => (HF.out.vars x (.tail _ (.tail _ (.tail _ hx)))).1 | exact fun x hx => (HF.out.vars x (.tail _ (.tail _ (.tail _ (.tail _ hx))))).1 | exact fun x hx => (HF.out.vars x (.tail _ (.tail _ (.tail _ (.tail _ (.tail _ hx)))))).1) (fun hHeld => ?_)
      clear hK K
      try simp only [Act.put, lay1, lay2, lay3]
      refine wpAnyH_take (i := 17) (oi := ⟨some 97, Op.pick (Operand.tmp 94) (Operand.const (Value.bool true)) (Operand.tmp 96), _, _, _, _⟩) (v := ?v98) rfl (by kernel_rfl) (by kernel_rfl) (by kernel_rfl) (fun _ _ _ h => h) (Or.inl ⟨by rfl, ?hy98⟩) (by assumption) ?rest98
      case hy98 => ((intro w0 hSw; go_simp); try (with_reducible rfl))
      try simp only [Act.put, lay1, lay2, lay3]
      refine wpAnyH_done (by kernel_rfl) ?_ _
      try rw [← HTT.out]
      go_wp2_with (first
        | (go_at_call 15; ((with_reducible refine (two_any _).mono ?_); rintro e v1 ⟨rfl, hg⟩; replace HF := Lib.hid (HF.out.grown hg); clear hg))
        | (go_at_call 14; ((with_reducible refine (new_nil c2 _).mono ?_); rintro e v2 ⟨rfl, hg⟩; replace HF := Lib.hid (HF.out.grown hg); clear hg))
        | (go_at_call 16; ((with_reducible refine (take_nil a0 _).mono ?_); rintro e v3 ⟨rfl, hg⟩; replace HF := Lib.hid (HF.out.grown hg); clear hg))
        | (go_at_call 17; ((with_reducible refine (entry_nil _ _).mono ?_); rintro e v4 ⟨rfl, hg⟩; replace HF := Lib.hid (HF.out.grown hg); clear hg; replace HF := Lib.hid (HF.out.grown (grown_alloc (grown_refl _ _) (.cells #[.int .i64 0, .int .u32 0] 47)))))
        | ((with_reducible refine load_gd a0 3 B3 ?_ ?_ (tt.range_of (HF.out.vars (B3, a0) (by simp)).1) ?_); (rfl); (rfl))
        | ((with_reducible refine wp_load_mid 31 (.tmp 3) rfl B3 0 ?_ (nt a0) _ (tt.range_of (HF.out.vars (B3, a0) (by simp)).1) Tryd.underlying31 rfl (tt.info31' a0) ?_); (rfl))
        | ((with_reducible refine tt.load_nt a0 _ B3 ?_ (tt.range_of (HF.out.vars (B3, a0) (by simp)).1) ?_); (rfl))
        | (go_at_call 18; ((with_reducible refine (ready_nil a0 _).mono ?_); rintro e v5 ⟨rfl, hg⟩; replace HF := Lib.hid (HF.out.grown hg); clear hg))
        | (go_at_call 13; ((with_reducible refine (busy_nil _ _).mono ?_); rintro e v6 ⟨rfl, rfl⟩))
        | (go_at_call 19; ((with_reducible refine (waits_nil _).mono ?_); rintro e v7 ⟨rfl, rfl⟩))
        | (go_at_call 20; ((with_reducible refine (copy_nil _).mono ?_); rintro e v8 ⟨rfl, rfl⟩)))
      go_ret
      exact ⟨rfl, HF.out.own.old⟩
end Go.Proofs.YtenhdijbcdkfbaaDoor.hh
