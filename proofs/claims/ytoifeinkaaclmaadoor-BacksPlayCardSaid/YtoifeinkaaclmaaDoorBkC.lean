/-
  What take and Find of Backs answer, and what is there behind them: contracts. No condition but the bounds that each theorem names.
-/
import Derived.Test.YtoifeinkaaclmaaDoorBkB
namespace Go.Proofs.YtoifeinkaaclmaaDoor.bk
open Go Go.ChangeShapes Go.WideShapes Go.ChangeAt Go.RowKit
open Go.Proofs.YtoifeinkaaclmaaDoor.tt (Cfg Tab CfgAt cfg_at U zd row tyne add_lit lt_of range_grown heap_setCells_other setCells_rest grown_setCells grown_setRow grown_new grown_drewN below_of grown_alloc grown_refl grown_trans grown_drew Sl Pool Turn Next flat)
set_option linter.unusedVariables false
set_option linter.unusedSimpArgs false
set_option maxRecDepth 1000000

theorem aside {w W3 w4 W5 : World} {p m : Nat} {v v' : Value} {ns' : List Bk} (hg : w.grownBy W3 none) (hp : p < w.heap.size) (hT : Turn W3 w4 p v v') (hP : BPool w4 p v' m ns')
    (ho : W5.os = w4.os) (ht : W5.tape = w4.tape) (hu : W5.output = w4.output) (hs : w4.heap.size ≤ W5.heap.size) (hk : ∀ k, k < w4.heap.size → (k < w.heap.size ∨ v'.ownBlock = some k) → W5.heap[k]? = w4.heap[k]?) : BPool W5 p v' m ns' ∧ Turn w W5 p v v' := by
  have h1 := hg.size
  have h2 := hT.size
  have hT2 := Turn.trans (Turn.of_grown p v hg) hT
  exact ⟨hP.of_block (hk p (by omega) (.inl hp)) (fun g e => hk g (hP.sl.lt g e) (.inr e)), ho.trans hT2.os, ht.trans hT2.tape, hu.trans hT2.output, by omega, fun k h3 h4 h5 => (hk k (by omega) (.inl h3)).trans (hT2.block k h3 h4 h5), hT2.next⟩
/-- A back into a variable of its own, in a region that draws its order. -/
theorem store_at (x : Bk) (W : World) (g : Nat) (cz : Array Value) (hb : W.heap[g]? = some (.cells cz 57 (0, 0))) (hz : cz.size = 18) : (storeCells ⟨g, 0, none⟩ (ba x).toList 0).run Tryd.prog W = .ok () (W.setCells g 0 (bt x)) := by
  have ht := there_of hb hz
  have := run_storeCells_cells (P := Tryd.prog) g 0 (bt x) 0 W (fun j hj => by simpa using (ht j (by simpa [bt_len] using hj)).1) (fun j hj => by simpa using (ht j (by simpa [bt_len] using hj)).2) (bt_one x)
  simpa [ba] using this
theorem range_at (x : Bk) (W : World) (g : Nat) (cz : Array Value) (hb : W.heap[g]? = some (.cells cz 57 (0, 0))) (hz : cz.size = 18) : (W.setCells g 0 (bt x)).rangeAt g 0 (bt x) := by
  have ht := there_of hb hz
  exact World.rangeAt_setCells_same _ _ _ _ (fun i hi => ht i (by simpa [bt_len] using hi))
theorem undrew {w w' : World} {o : Option Nat} (h : w.grownBy w' o) : w.drew.grownBy w' o := ⟨h.os, h.tape, h.output, h.size, h.block⟩
/-- What stands when a back is about to be stored: the world w4, its variable g. -/
structure Met (w w4 : World) (p g R : Nat) (t : TypeId) (zr : Array Value) (v v' : Value) (m : Nat) (ns' : List Bk) : Prop where
  pool : BPool w4 p v' m ns'
  turn : Turn w w4 p v v'
  var : w4.heap[g]? = some (.cells (ba zb) 57 (0, 0))
  res : w4.heap[R]? = some (.cells zr t (0, 0))
  ge : w.heap.size ≤ g
  ne : R ≠ g
  rw : w.heap.size ≤ R
  vg : v'.ownBlock ≠ some g
  vr : v'.ownBlock ≠ some R
/-- A load and a store of a back's data in a region that draws its order. -/
theorem named29 : ∃ (t : TypeId) (m : Nat), Hid (Op.load 33 = Op.load t ∧ Op.store 33 = Op.store t) ∧ (∀ w, (isAgg t).run Tryd.prog w = .ok true w) ∧ (∀ w, (sizeOf t).run Tryd.prog w = .ok m w) ∧
    (∀ (g o : Nat) (d : List Int), d.length = 16 → ∀ w : World, w.rangeAt g o (d.map U) → (loadCellsFrom ⟨g, o, none⟩ 0 m #[]).run Tryd.prog w = .ok (row d) w) ∧ (∀ d : List Int, d.length = 16 → (row d).size = m) ∧
    (∀ (g o : Nat) (d : List Int), d.length = 16 → ∀ w : World, w.there g o 16 → (storeCells ⟨g, o, none⟩ (row d).toList 0).run Tryd.prog w = .ok () (w.setCells g o (d.map U))) :=
  ⟨33, 16, Lib.hid ⟨rfl, rfl⟩, Tryd.isAgg33, Tryd.sizeOf33, fun g o d hd w h => by
    have := run_loadCells_list (P := Tryd.prog) w ⟨g, o, none⟩ (d.map U) (fun j v hv => by rw [add_lit]; exact h j v hv)
    simpa [loadCells, hd, row] using this, fun d hd => by simp [row, hd], fun g o d hd w h => by
    have := run_storeCells_cells (P := Tryd.prog) g o (d.map U) 0 w (fun j hj => by simpa using (h j (by simpa [hd] using hj)).1) (fun j hj => by simpa using (h j (by simpa [hd] using hj)).2) (fun v hv => by
      obtain ⟨x, _, rfl⟩ := List.mem_map.1 hv; rfl)
    simpa [row] using this⟩
theorem range_d {w : World} {g : Nat} {n : Bk} (h : w.rangeAt g 0 (bt n)) : w.rangeAt g 1 (n.d.map U) := fun j v hv => by
  have hj : j < 16 := by have := (List.getElem?_eq_some_iff.1 hv).1; simpa [n.hd] using this
  have := h (1 + j) v (by rw [bt_d n j hj]; simpa using hv)
  rwa [Nat.zero_add] at this
theorem infoR (d : List Int) (hd : d.length = 16) : (Tryd.prog.info? 33).map (·.size) = some (d.map U).length := by
  have h : (Tryd.prog.info? 33).map (·.size) = some 16 := by kernel_rfl
  rw [h, List.length_map, hd]
/-- A result: a block out of its variable, and two values. -/
theorem ret_row3 {fn : Func} {p q r : Tmp} (hres : fn.results = #[.cell p 33, .tmp q, .tmp r]) (w : World) (d : List Int) (hd : d.length = 16) (u v : Value) (B : Nat) (tmps : Array Value) (Q : Ending → World → Prop) (h4 : tmps.getD p undef = .pointer (some ⟨B, 0, none⟩)) (h5 : tmps.getD q undef = u) (h6 : tmps.getD r undef = v)
    (hr : w.rangeAt B 0 (d.map U)) (hQ : Q (.returned (.tuple #[.agg (row d), u, v])) w) : bodyPost Tryd.prog fn Q .ret { tmps := tmps, defers := [] } w := by
  refine bodyPost_ret (v := .tuple #[.agg (row d), u, v]) ?_ rfl hQ
  have := run_loadVar_mid (P := Tryd.prog) w B 0 33 (d.map U) _ hr Tryd.underlying33 rfl (infoR d hd)
  have h4' : tmps[p]?.getD undef = .pointer (some ⟨B, 0, none⟩) := by simpa using h4
  have h5' : tmps[q]?.getD undef = u := by simpa using h5
  have h6' : tmps[r]?.getD undef = v := by simpa using h6
  simp [results, hres, h4', h5', h6', asAddr, this, row]
/-- A new variable of a block. -/
theorem onerow (w : World) : ∃ w2, w.alloc (.cells (row zd) 33) = w2 ∧ w.grownBy w2 none ∧ w2.heap[w.heap.size]? = some (.cells (row zd) 33 (0, 0)) ∧ w2.heap.size = w.heap.size + 1 :=
  ⟨_, rfl, grown_alloc (grown_refl _ _) _, heap_alloc_new _ _, by simp⟩
theorem zrow : row zd = #[.int .u32 0, .int .u32 0, .int .u32 0, .int .u32 0, .int .u32 0, .int .u32 0, .int .u32 0, .int .u32 0, .int .u32 0, .int .u32 0, .int .u32 0, .int .u32 0, .int .u32 0, .int .u32 0, .int .u32 0, .int .u32 0] := rfl
theorem there16 {w : World} {g : Nat} {c : Array Value} {t : TypeId} (h : w.heap[g]? = some (.cells c t (0, 0))) (hc : c.size = 16) : w.there g 0 16 := fun i hi => by
  refine ⟨?_, frozen_of_row _ _ _ _ _ h⟩
  rw [cell_of_row _ _ _ _ _ _ h, Nat.zero_add, Array.getElem?_eq_getElem (by omega)]; rfl
section
variable (t p : Nat) (v : Value) (n : Int) (m : Nat) (ns : List Bk) (w : World) (H : BkAt w t p v n m ns)
include H
set_option maxHeartbeats 4000000 in
theorem take_gen (b k : Int) (x : Bk) (e : Int) (ns' : List Bk) (hff : ff ns b 0 = k) (hTK : ∀ w', w.grownBy w' none → Calls Tryd.prog 43 #[.pointer (some ⟨p, 0, none⟩), .int .i64 k] w' fun e' w'' => e' = .returned (.tuple #[.agg (ba x), .int .i64 e]) ∧ ∃ v', BPool w'' p v' m ns' ∧ Turn w' w'' p v v') :
    Calls Tryd.prog 31 #[.pointer (some ⟨t, 0, none⟩), .int .i64 b] w fun e' w' => e' = .returned (.tuple #[.agg (ba x), .bool (e == 0)]) ∧ ∃ v', BPool w' p v' m ns' ∧ Turn w w' p v v' := by
  obtain ⟨w2, hw, hg2, hb2, hs2⟩ := onez w
  have hz : ba zb = _ := zb_ba
  rw [hz] at hw
  have HPL : Hid (∀ w', w.grownBy w' none → _) := Lib.hid fun w' h => place_any t p v n m ns w' (H.grown h) b
  rw [hff] at HPL
  have HTK := Lib.hid hTK
  have hc : w2.cell? ⟨t, 1, none⟩ = _ := (H.grown hg2).c1
  have HG2 := Lib.hid hg2
  have HB2 := Lib.hid hb2
  have HS2 := Lib.hid hs2
  have HP := Lib.hid H.pool.lt
  have HV := Lib.hid H.pool.sl.lt
  have HH := Lib.hid H
  have hsz := ba_size x
  clear H hff hg2 hb2 hs2 hz hTK
  go_enter Tryd.func31, Tryd.ntmps31
  go_wp2_with fail
  refine wp_region_held_drew (S := fun W => W.cell? ⟨t, 1, none⟩ = some (.pointer (some ⟨p, 0, none⟩))) (by kernel_rfl) hc (fun hHeld => ?_)
  have HG0 := Lib.hid (grown_drew (grown_refl w2 none))
  generalize w2.drew = W0 at hHeld HG0 ⊢
  refine wpAnyH_take (i := 0) (oi := ⟨some 12, Op.move (Operand.tmp 0), _, _, _, _⟩) (v := ?v1) rfl (by kernel_rfl) (by kernel_rfl) (by kernel_rfl) (fun _ _ _ h => h) (Or.inl ⟨by rfl, ?hy1⟩) (by assumption) ?rest1
  case hy1 => ((intro w0 hSw; go_simp); try (with_reducible rfl))
  try simp only [Act.put, List.setIfInBounds_toArray, List.set_cons_zero, List.set_cons_succ]
  refine wpAnyH_take (i := 1) (oi := ⟨some 13, Op.nilCheck (Operand.tmp 12), _, _, _, _⟩) (v := ?v2) rfl (by kernel_rfl) (by kernel_rfl) (by kernel_rfl) (fun _ _ _ h => h) (Or.inl ⟨by rfl, ?hy2⟩) (by assumption) ?rest2
  case hy2 => ((intro w0 hSw; go_simp); try (with_reducible rfl))
  try simp only [Act.put, List.setIfInBounds_toArray, List.set_cons_zero, List.set_cons_succ]
  refine wpAnyH_take (i := 2) (oi := ⟨some 14, Op.fieldAddr 59 (Operand.tmp 13) 1, _, _, _, _⟩) (v := ?v3) rfl (by kernel_rfl) (by kernel_rfl) (by kernel_rfl) (fun _ _ _ h => h) (Or.inl ⟨by rfl, ?hy3⟩) (by assumption) ?rest3
  case hy3 => ((intro w0 hSw; go_simp); try (with_reducible rfl))
  try simp only [Act.put, List.setIfInBounds_toArray, List.set_cons_zero, List.set_cons_succ]
  refine wpAnyH_take (i := 3) (oi := ⟨some 15, Op.load 53 (Operand.tmp 14), _, _, _, _⟩) (v := ?v4) rfl (by kernel_rfl) (by kernel_rfl) (by kernel_rfl) (fun _ _ _ h => h) (Or.inl ⟨by rfl, ?hy4⟩) (by assumption) ?rest4
  case hy4 => ((intro w0 hSw; go_simp); try (with_reducible rfl))
  try simp only [Act.put, List.setIfInBounds_toArray, List.set_cons_zero, List.set_cons_succ]
  refine wpAnyH_take (i := 4) (oi := ⟨some 16, Op.move (Operand.tmp 0), _, _, _, _⟩) (v := ?v5) rfl (by kernel_rfl) (by kernel_rfl) (by kernel_rfl) (fun _ _ _ h => h) (Or.inl ⟨by rfl, ?hy5⟩) (by assumption) ?rest5
  case hy5 => ((intro w0 hSw; go_simp); try (with_reducible rfl))
  try simp only [Act.put, List.setIfInBounds_toArray, List.set_cons_zero, List.set_cons_succ]
  refine wpAnyH_take (i := 5) (oi := ⟨some 17, Op.move (Operand.tmp 1), _, _, _, _⟩) (v := ?v6) rfl (by kernel_rfl) (by kernel_rfl) (by kernel_rfl) (fun _ _ _ h => h) (Or.inl ⟨by rfl, ?hy6⟩) (by assumption) ?rest6
  case hy6 => ((intro w0 hSw; go_simp); try (with_reducible rfl))
  try simp only [Act.put, List.setIfInBounds_toArray, List.set_cons_zero, List.set_cons_succ]
  refine wpAnyH_ready (rs := [6, 11]) (by kernel_rfl) (by simp) (AllReadyH.cons (o := ⟨some 18, Op.call { callee := Callee.value (Operand.func 29), args := #[(Operand.tmp 16), (Operand.tmp 17)], argTypes := #[22, 3] }, _, _, _, _⟩) rfl (fun K hK => ?_) (AllReadyH.cons (o := ⟨some 6, Op.alloc 57, _, _, _, _⟩) rfl (fun K hK => ?_) AllReadyH.nil))
  · go_simp
    (with_reducible refine (HPL.out _ (grown_trans HG2.out HG0.out)).mono ?_); rintro e X1 ⟨rfl, hgn⟩
    have HG1 := Lib.hid (grown_trans HG0.out hgn)
    go_wp2_with fail
    refine hK.out _ _ ((HH.out.grown (grown_trans HG2.out HG1.out)).c1) (fun hHeld => ?_)
    clear hK K hgn
    try simp only [Act.put, List.setIfInBounds_toArray, List.set_cons_zero, List.set_cons_succ]
    refine wpAnyH_ready (rs := [7, 11]) (by kernel_rfl) (by simp) (AllReadyH.cons (o := ⟨some 19, Op.call { callee := Callee.value (Operand.func 43), args := #[(Operand.tmp 15), (Operand.tmp 18)], argTypes := #[53, 3] }, _, _, _, _⟩) rfl (fun K hK => ?_) (AllReadyH.cons (o := ⟨some 6, Op.alloc 57, _, _, _, _⟩) rfl (fun K hK => ?_) AllReadyH.nil))
    · go_simp
      (with_reducible refine (HTK.out _ (grown_trans HG2.out HG1.out)).mono ?_); rintro e X2 ⟨rfl, v', hP4, hT4⟩
      have HPT := Lib.hid hP4
      have HTT := Lib.hid ((Turn.of_grown p v (grown_trans HG2.out HG1.out)).trans hT4)
      have hRlt : w.heap.size < X1.heap.size := by have := lt_of HB2.out; have := HG1.out.size; omega
      have hRv : some w.heap.size ≠ v.ownBlock := fun e => by have := HV.out _ e.symm; omega
      have HRT := Lib.hid ((hT4.block w.heap.size hRlt (by have := HP.out; omega) hRv).trans ((HG1.out.block w.heap.size (lt_of HB2.out) (by simp)).trans HB2.out))
      have HVR : Hid (v'.ownBlock ≠ some w.heap.size) := Lib.hid (fun e => hT4.next.ne hRlt hRv e.symm)
      have hcT := (World.cell?_of_block (a := ⟨t, 1, none⟩) (HTT.out.block t HH.out.lt HH.out.tp HH.out.tv)).trans HH.out.c1
      go_wp2_with fail
      refine hK.out _ _ hcT (fun hHeld => ?_)
      clear hK K hcT hP4 hT4 hRlt hRv
      try simp only [Act.put, List.setIfInBounds_toArray, List.set_cons_zero, List.set_cons_succ]
      refine wpAnyH_take (i := 8) (oi := ⟨some 11, Op.move (Operand.tmp 19), _, _, _, _⟩) (v := ?v7) rfl (by kernel_rfl) (by kernel_rfl) (by kernel_rfl) (fun _ _ _ h => h) (Or.inl ⟨by rfl, ?hy7⟩) (by assumption) ?rest7
      case hy7 => ((intro w0 hSw; go_simp); try (with_reducible rfl))
      try simp only [Act.put, List.setIfInBounds_toArray, List.set_cons_zero, List.set_cons_succ]
      refine wpAnyH_take (i := 9) (oi := ⟨some 20, Op.extract (Operand.tmp 11) 0, _, _, _, _⟩) (v := ?v8) rfl (by kernel_rfl) (by kernel_rfl) (by kernel_rfl) (fun _ _ _ h => h) (Or.inl ⟨by rfl, ?hy8⟩) (by assumption) ?rest8
      case hy8 => ((intro w0 hSw; go_simp); try (with_reducible rfl))
      try simp only [Act.put, List.setIfInBounds_toArray, List.set_cons_zero, List.set_cons_succ]
      refine wpAnyH_take (i := 10) (oi := ⟨some 21, Op.extract (Operand.tmp 11) 1, _, _, _, _⟩) (v := ?v9) rfl (by kernel_rfl) (by kernel_rfl) (by kernel_rfl) (fun _ _ _ h => h) (Or.inl ⟨by rfl, ?hy9⟩) (by assumption) ?rest9
      case hy9 => ((intro w0 hSw; go_simp); try (with_reducible rfl))
      try simp only [Act.put, List.setIfInBounds_toArray, List.set_cons_zero, List.set_cons_succ]
      refine wpAnyH_ready (rs := [11]) (by kernel_rfl) (by simp) (AllReadyH.cons (o := ⟨some 6, Op.alloc 57, _, _, _, _⟩) rfl (fun K hK => ?_) AllReadyH.nil)
      · go_simp
        refine hK.out _ _ ((World.cell?_alloc_some _ _ _ (by rw [hHeld]; rfl)).trans hHeld) (fun hHeld => ?_)
        clear hK K
        try simp only [Act.put, List.setIfInBounds_toArray, List.set_cons_zero, List.set_cons_succ]
        have HBG := Lib.hid (heap_alloc_new X2 (.cells (ba zb) 57))
        have HSG := Lib.hid (show X2.heap.size = X2.heap.size from rfl)
        obtain ⟨g, hgg⟩ : ∃ g, X2.heap.size = g := ⟨_, rfl⟩
        rw [hgg] at HBG ⊢
        have HGG := Lib.hid hgg
        clear hgg
        have HPX := Lib.hid (HPT.out.grown (grown_alloc (grown_refl X2 none) (.cells (ba zb) 57)))
        have HTX := Lib.hid (HTT.out.trans (Turn.of_grown p v' (grown_alloc (grown_refl X2 none) (.cells (ba zb) 57))))
        have HRX := Lib.hid ((Below.heap_alloc X2 (.cells (ba zb) 57) _ (lt_of HRT.out)).trans HRT.out)
        have HWX : Hid (X2.alloc (.cells (ba zb) 57) = _) := Lib.hid rfl
        obtain ⟨X3, hX⟩ : ∃ X, X2.alloc (.cells (ba zb) 57) = X := ⟨_, rfl⟩
        have hX' : X2.alloc (.cells #[.int .i64 0, .int .u32 0, .int .u32 0, .int .u32 0, .int .u32 0, .int .u32 0, .int .u32 0, .int .u32 0, .int .u32 0, .int .u32 0, .int .u32 0, .int .u32 0, .int .u32 0, .int .u32 0, .int .u32 0, .int .u32 0, .int .u32 0, .bool false] 57) = X3 := hX
        rw [hX'] at hHeld ⊢
        rw [hX] at HBG HPX HTX HRX
        clear hX hX' HWX HSG
        have HTG : Hid (t ≠ g) := Lib.hid (by have := HH.out.lt; have := HG2.out.size; have := HTT.out.size; have := HGG.out; omega)
        have HM : Hid (Met w X3 p g w.heap.size 57 (ba zb) v v' m ns') := Lib.hid ⟨HPX.out, HTX.out, HBG.out, HRX.out, by have := HTT.out.size; have := HGG.out; omega, by have := lt_of HRT.out; have := HGG.out; omega, Nat.le_refl _, fun e => by have := HPT.out.sl.lt _ e; have := HGG.out; omega, HVR.out⟩
        have hst4 := store_at x X3 g _ HM.out.var rfl
        refine wpAnyH_ready (rs := [12]) (by kernel_rfl) (by simp) ?_
        refine AllReadyH.cons (o := ⟨none, Op.store 57 (Operand.tmp 6) (Operand.tmp 20), _, _, _, _⟩) rfl (fun K hK => ?_) AllReadyH.nil
        go_simp
        refine hK.out _ _ (show (X3.setCells g 0 (bt x)).cell? ⟨t, 1, none⟩ = _ from (World.cell?_of_block (heap_setCells_other g t HTG.out _ _ _)).trans hHeld) (fun hHeld => ?_)
        clear hK K
        try simp only [Act.put, List.setIfInBounds_toArray, List.set_cons_zero, List.set_cons_succ]
        refine wpAnyH_take (i := 13) (oi := ⟨some 7, Op.assign (Operand.tmp 21), _, _, _, _⟩) (v := ?v10) rfl (by kernel_rfl) (by kernel_rfl) (by kernel_rfl) (fun _ _ _ h => h) (Or.inl ⟨by rfl, ?hy10⟩) (by assumption) ?rest10
        case hy10 => ((intro w0 hSw; go_simp); try (with_reducible rfl))
        try simp only [Act.put, List.setIfInBounds_toArray, List.set_cons_zero, List.set_cons_succ]
        refine wpAnyH_done (by kernel_rfl) ?_ _
        have HR5 : Hid ((X3.setCells g 0 (bt x)).rangeAt g 0 (bt x)) := Lib.hid (range_at x X3 g _ HM.out.var rfl)
        have HE5 : Hid ((X3.setCells g 0 (bt x)).heap[w.heap.size]? = _) := Lib.hid ((heap_setCells_other g w.heap.size HM.out.ne _ _ _).trans HM.out.res)
        have HZ5 := Lib.hid (setCells_rest g (bt x) 0 X3)
        have HO5 : Hid (∀ k, k ≠ g → (X3.setCells g 0 (bt x)).heap[k]? = X3.heap[k]?) := Lib.hid (fun k hk => heap_setCells_other g k hk _ _ _)
        clear hst4
        generalize X3.setCells g 0 (bt x) = Y at *
        go_wp2_with (first
          | ((with_reducible refine load_bt x _ g ?_ HR5.out ?_); (rfl))
          | ((with_reducible refine store_any x _ _ _ w.heap.size ?_ ?_ HE5.out ?_ ?_); (rfl); (rfl); (rfl)))
        have hfin := aside (W3 := w) (grown_refl _ _) HP.out HM.out.turn HM.out.pool (W5 := Y.setRow w.heap.size (ba x)) HZ5.out.1 HZ5.out.2.1 HZ5.out.2.2.1 (by have := HZ5.out.2.2.2; simp; omega) (fun k hk hk2 => (setRow_other _ _ _ _ (by rcases hk2 with h | h; omega; exact fun e => HM.out.vr (e ▸ h))).trans (HO5.out k (by rcases hk2 with h | h; (have := HM.out.ge; omega); exact fun e => HM.out.vg (e ▸ h))))
        exact ret_bte rfl _ x _ w.heap.size _ _ (by rfl) (by rfl) (range_of (setRow_heap _ _ _ _ _ _ HE5.out)) ⟨rfl, v', hfin.1, hfin.2⟩
    · go_simp
      refine hK.out _ _ ((World.cell?_alloc_some _ _ _ (by rw [hHeld]; rfl)).trans hHeld) (fun hHeld => ?_)
      clear hK K
      try simp only [Act.put, List.setIfInBounds_toArray, List.set_cons_zero, List.set_cons_succ]
      have HBG := Lib.hid (heap_alloc_new X1 (.cells (ba zb) 57))
      have HSG := Lib.hid (show X1.heap.size = X1.heap.size from rfl)
      obtain ⟨g, hgg⟩ : ∃ g, X1.heap.size = g := ⟨_, rfl⟩
      rw [hgg] at HBG ⊢
      have HGG := Lib.hid hgg
      have HGL : Hid (w2.heap.size ≤ g) := Lib.hid (by have := HG1.out.size; omega)
      clear hgg
      have HG4 := Lib.hid (grown_alloc HG1.out (.cells (ba zb) 57))
      have HWX : Hid (X1.alloc (.cells (ba zb) 57) = _) := Lib.hid rfl
      obtain ⟨X4, hX⟩ : ∃ X, X1.alloc (.cells (ba zb) 57) = X := ⟨_, rfl⟩
      have hX' : X1.alloc (.cells #[.int .i64 0, .int .u32 0, .int .u32 0, .int .u32 0, .int .u32 0, .int .u32 0, .int .u32 0, .int .u32 0, .int .u32 0, .int .u32 0, .int .u32 0, .int .u32 0, .int .u32 0, .int .u32 0, .int .u32 0, .int .u32 0, .int .u32 0, .bool false] 57) = X4 := hX
      rw [hX'] at hHeld ⊢
      rw [hX] at HBG HG4
      clear hX hX' HWX HSG
      refine wpAnyH_ready (rs := [7]) (by kernel_rfl) (by simp) (AllReadyH.cons (o := ⟨some 19, Op.call { callee := Callee.value (Operand.func 43), args := #[(Operand.tmp 15), (Operand.tmp 18)], argTypes := #[53, 3] }, _, _, _, _⟩) rfl (fun K hK => ?_) AllReadyH.nil)
      · go_simp
        (with_reducible refine (HTK.out _ (grown_trans HG2.out HG4.out)).mono ?_); rintro e X5 ⟨rfl, v', hP4, hT4⟩
        have HPT := Lib.hid hP4
        have HTT := Lib.hid ((Turn.of_grown p v (grown_trans HG2.out HG4.out)).trans hT4)
        have hRlt : w.heap.size < X4.heap.size := by have := lt_of HB2.out; have := HG4.out.size; omega
        have hRv : some w.heap.size ≠ v.ownBlock := fun e => by have := HV.out _ e.symm; omega
        have HRT := Lib.hid ((hT4.block w.heap.size hRlt (by have := HP.out; omega) hRv).trans ((HG4.out.block w.heap.size (lt_of HB2.out) (by simp)).trans HB2.out))
        have HVR : Hid (v'.ownBlock ≠ some w.heap.size) := Lib.hid (fun e => hT4.next.ne hRlt hRv e.symm)
        have hglt := lt_of HBG.out
        have hgw : w.heap.size < g := by have := lt_of HB2.out; have := HGL.out; omega
        have hgv : some g ≠ v.ownBlock := fun e => by have := HV.out _ e.symm; omega
        have HTG : Hid (t ≠ g) := Lib.hid (by have := HH.out.lt; omega)
        have HM : Hid (Met w X5 p g w.heap.size 57 (ba zb) v v' m ns') := Lib.hid ⟨HPT.out, HTT.out, (hT4.block g hglt (by have := HP.out; omega) hgv).trans HBG.out, HRT.out, by omega, by omega, Nat.le_refl _, fun e => hT4.next.ne hglt hgv e.symm, HVR.out⟩
        have hcT := (World.cell?_of_block (a := ⟨t, 1, none⟩) (HTT.out.block t HH.out.lt HH.out.tp HH.out.tv)).trans HH.out.c1
        go_wp2_with fail
        refine hK.out _ _ hcT (fun hHeld => ?_)
        clear hK K hcT hP4 hT4 hRlt hRv hglt hgw hgv
        try simp only [Act.put, List.setIfInBounds_toArray, List.set_cons_zero, List.set_cons_succ]
        refine wpAnyH_take (i := 8) (oi := ⟨some 11, Op.move (Operand.tmp 19), _, _, _, _⟩) (v := ?v11) rfl (by kernel_rfl) (by kernel_rfl) (by kernel_rfl) (fun _ _ _ h => h) (Or.inl ⟨by rfl, ?hy11⟩) (by assumption) ?rest11
        case hy11 => ((intro w0 hSw; go_simp); try (with_reducible rfl))
        try simp only [Act.put, List.setIfInBounds_toArray, List.set_cons_zero, List.set_cons_succ]
        refine wpAnyH_take (i := 9) (oi := ⟨some 20, Op.extract (Operand.tmp 11) 0, _, _, _, _⟩) (v := ?v12) rfl (by kernel_rfl) (by kernel_rfl) (by kernel_rfl) (fun _ _ _ h => h) (Or.inl ⟨by rfl, ?hy12⟩) (by assumption) ?rest12
        case hy12 => ((intro w0 hSw; go_simp); try (with_reducible rfl))
        try simp only [Act.put, List.setIfInBounds_toArray, List.set_cons_zero, List.set_cons_succ]
        refine wpAnyH_take (i := 10) (oi := ⟨some 21, Op.extract (Operand.tmp 11) 1, _, _, _, _⟩) (v := ?v13) rfl (by kernel_rfl) (by kernel_rfl) (by kernel_rfl) (fun _ _ _ h => h) (Or.inl ⟨by rfl, ?hy13⟩) (by assumption) ?rest13
        case hy13 => ((intro w0 hSw; go_simp); try (with_reducible rfl))
        try simp only [Act.put, List.setIfInBounds_toArray, List.set_cons_zero, List.set_cons_succ]
        have hst4 := store_at x X5 g _ HM.out.var rfl
        refine wpAnyH_ready (rs := [12]) (by kernel_rfl) (by simp) ?_
        refine AllReadyH.cons (o := ⟨none, Op.store 57 (Operand.tmp 6) (Operand.tmp 20), _, _, _, _⟩) rfl (fun K hK => ?_) AllReadyH.nil
        go_simp
        refine hK.out _ _ (show (X5.setCells g 0 (bt x)).cell? ⟨t, 1, none⟩ = _ from (World.cell?_of_block (heap_setCells_other g t HTG.out _ _ _)).trans hHeld) (fun hHeld => ?_)
        clear hK K
        try simp only [Act.put, List.setIfInBounds_toArray, List.set_cons_zero, List.set_cons_succ]
        refine wpAnyH_take (i := 13) (oi := ⟨some 7, Op.assign (Operand.tmp 21), _, _, _, _⟩) (v := ?v14) rfl (by kernel_rfl) (by kernel_rfl) (by kernel_rfl) (fun _ _ _ h => h) (Or.inl ⟨by rfl, ?hy14⟩) (by assumption) ?rest14
        case hy14 => ((intro w0 hSw; go_simp); try (with_reducible rfl))
        try simp only [Act.put, List.setIfInBounds_toArray, List.set_cons_zero, List.set_cons_succ]
        refine wpAnyH_done (by kernel_rfl) ?_ _
        have HR5 : Hid ((X5.setCells g 0 (bt x)).rangeAt g 0 (bt x)) := Lib.hid (range_at x X5 g _ HM.out.var rfl)
        have HE5 : Hid ((X5.setCells g 0 (bt x)).heap[w.heap.size]? = _) := Lib.hid ((heap_setCells_other g w.heap.size HM.out.ne _ _ _).trans HM.out.res)
        have HZ5 := Lib.hid (setCells_rest g (bt x) 0 X5)
        have HO5 : Hid (∀ k, k ≠ g → (X5.setCells g 0 (bt x)).heap[k]? = X5.heap[k]?) := Lib.hid (fun k hk => heap_setCells_other g k hk _ _ _)
        clear hst4
        generalize X5.setCells g 0 (bt x) = Y at *
        go_wp2_with (first
          | ((with_reducible refine load_bt x _ g ?_ HR5.out ?_); (rfl))
          | ((with_reducible refine store_any x _ _ _ w.heap.size ?_ ?_ HE5.out ?_ ?_); (rfl); (rfl); (rfl)))
        have hfin := aside (W3 := w) (grown_refl _ _) HP.out HM.out.turn HM.out.pool (W5 := Y.setRow w.heap.size (ba x)) HZ5.out.1 HZ5.out.2.1 HZ5.out.2.2.1 (by have := HZ5.out.2.2.2; simp; omega) (fun k hk hk2 => (setRow_other _ _ _ _ (by rcases hk2 with h | h; omega; exact fun e => HM.out.vr (e ▸ h))).trans (HO5.out k (by rcases hk2 with h | h; (have := HM.out.ge; omega); exact fun e => HM.out.vg (e ▸ h))))
        exact ret_bte rfl _ x _ w.heap.size _ _ (by rfl) (by rfl) (range_of (setRow_heap _ _ _ _ _ _ HE5.out)) ⟨rfl, v', hfin.1, hfin.2⟩
  · go_simp
    refine hK.out _ _ ((World.cell?_alloc_some _ _ _ (by rw [hHeld]; rfl)).trans hHeld) (fun hHeld => ?_)
    clear hK K
    try simp only [Act.put, List.setIfInBounds_toArray, List.set_cons_zero, List.set_cons_succ]
    have HBG := Lib.hid (heap_alloc_new W0 (.cells (ba zb) 57))
    have HSG := Lib.hid (show W0.heap.size = W0.heap.size from rfl)
    obtain ⟨g, hgg⟩ : ∃ g, W0.heap.size = g := ⟨_, rfl⟩
    rw [hgg] at HBG ⊢
    have HGG := Lib.hid hgg
    have HGL : Hid (w2.heap.size ≤ g) := Lib.hid (by have := HG0.out.size; omega)
    clear hgg
    have HG6 := Lib.hid (grown_alloc HG0.out (.cells (ba zb) 57))
    have HWX : Hid (W0.alloc (.cells (ba zb) 57) = _) := Lib.hid rfl
    obtain ⟨X6, hX⟩ : ∃ X, W0.alloc (.cells (ba zb) 57) = X := ⟨_, rfl⟩
    have hX' : W0.alloc (.cells #[.int .i64 0, .int .u32 0, .int .u32 0, .int .u32 0, .int .u32 0, .int .u32 0, .int .u32 0, .int .u32 0, .int .u32 0, .int .u32 0, .int .u32 0, .int .u32 0, .int .u32 0, .int .u32 0, .int .u32 0, .int .u32 0, .int .u32 0, .bool false] 57) = X6 := hX
    rw [hX'] at hHeld ⊢
    rw [hX] at HBG HG6
    clear hX hX' HWX HSG
    refine wpAnyH_ready (rs := [6]) (by kernel_rfl) (by simp) (AllReadyH.cons (o := ⟨some 18, Op.call { callee := Callee.value (Operand.func 29), args := #[(Operand.tmp 16), (Operand.tmp 17)], argTypes := #[22, 3] }, _, _, _, _⟩) rfl (fun K hK => ?_) AllReadyH.nil)
    · go_simp
      (with_reducible refine (HPL.out _ (grown_trans HG2.out HG6.out)).mono ?_); rintro e X7 ⟨rfl, hgn⟩
      have HG7 := Lib.hid (grown_trans HG6.out hgn)
      replace HBG := Lib.hid ((hgn.block g (lt_of HBG.out) (by simp)).trans HBG.out)
      go_wp2_with fail
      refine hK.out _ _ ((HH.out.grown (grown_trans HG2.out HG7.out)).c1) (fun hHeld => ?_)
      clear hK K hgn
      try simp only [Act.put, List.setIfInBounds_toArray, List.set_cons_zero, List.set_cons_succ]
      refine wpAnyH_ready (rs := [7]) (by kernel_rfl) (by simp) (AllReadyH.cons (o := ⟨some 19, Op.call { callee := Callee.value (Operand.func 43), args := #[(Operand.tmp 15), (Operand.tmp 18)], argTypes := #[53, 3] }, _, _, _, _⟩) rfl (fun K hK => ?_) AllReadyH.nil)
      · go_simp
        (with_reducible refine (HTK.out _ (grown_trans HG2.out HG7.out)).mono ?_); rintro e X8 ⟨rfl, v', hP4, hT4⟩
        have HPT := Lib.hid hP4
        have HTT := Lib.hid ((Turn.of_grown p v (grown_trans HG2.out HG7.out)).trans hT4)
        have hRlt : w.heap.size < X7.heap.size := by have := lt_of HB2.out; have := HG7.out.size; omega
        have hRv : some w.heap.size ≠ v.ownBlock := fun e => by have := HV.out _ e.symm; omega
        have HRT := Lib.hid ((hT4.block w.heap.size hRlt (by have := HP.out; omega) hRv).trans ((HG7.out.block w.heap.size (lt_of HB2.out) (by simp)).trans HB2.out))
        have HVR : Hid (v'.ownBlock ≠ some w.heap.size) := Lib.hid (fun e => hT4.next.ne hRlt hRv e.symm)
        have hglt := lt_of HBG.out
        have hgw : w.heap.size < g := by have := lt_of HB2.out; have := HGL.out; omega
        have hgv : some g ≠ v.ownBlock := fun e => by have := HV.out _ e.symm; omega
        have HTG : Hid (t ≠ g) := Lib.hid (by have := HH.out.lt; omega)
        have HM : Hid (Met w X8 p g w.heap.size 57 (ba zb) v v' m ns') := Lib.hid ⟨HPT.out, HTT.out, (hT4.block g hglt (by have := HP.out; omega) hgv).trans HBG.out, HRT.out, by omega, by omega, Nat.le_refl _, fun e => hT4.next.ne hglt hgv e.symm, HVR.out⟩
        have hcT := (World.cell?_of_block (a := ⟨t, 1, none⟩) (HTT.out.block t HH.out.lt HH.out.tp HH.out.tv)).trans HH.out.c1
        go_wp2_with fail
        refine hK.out _ _ hcT (fun hHeld => ?_)
        clear hK K hcT hP4 hT4 hRlt hRv hglt hgw hgv
        try simp only [Act.put, List.setIfInBounds_toArray, List.set_cons_zero, List.set_cons_succ]
        refine wpAnyH_take (i := 8) (oi := ⟨some 11, Op.move (Operand.tmp 19), _, _, _, _⟩) (v := ?v15) rfl (by kernel_rfl) (by kernel_rfl) (by kernel_rfl) (fun _ _ _ h => h) (Or.inl ⟨by rfl, ?hy15⟩) (by assumption) ?rest15
        case hy15 => ((intro w0 hSw; go_simp); try (with_reducible rfl))
        try simp only [Act.put, List.setIfInBounds_toArray, List.set_cons_zero, List.set_cons_succ]
        refine wpAnyH_take (i := 9) (oi := ⟨some 20, Op.extract (Operand.tmp 11) 0, _, _, _, _⟩) (v := ?v16) rfl (by kernel_rfl) (by kernel_rfl) (by kernel_rfl) (fun _ _ _ h => h) (Or.inl ⟨by rfl, ?hy16⟩) (by assumption) ?rest16
        case hy16 => ((intro w0 hSw; go_simp); try (with_reducible rfl))
        try simp only [Act.put, List.setIfInBounds_toArray, List.set_cons_zero, List.set_cons_succ]
        refine wpAnyH_take (i := 10) (oi := ⟨some 21, Op.extract (Operand.tmp 11) 1, _, _, _, _⟩) (v := ?v17) rfl (by kernel_rfl) (by kernel_rfl) (by kernel_rfl) (fun _ _ _ h => h) (Or.inl ⟨by rfl, ?hy17⟩) (by assumption) ?rest17
        case hy17 => ((intro w0 hSw; go_simp); try (with_reducible rfl))
        try simp only [Act.put, List.setIfInBounds_toArray, List.set_cons_zero, List.set_cons_succ]
        have hst4 := store_at x X8 g _ HM.out.var rfl
        refine wpAnyH_ready (rs := [12]) (by kernel_rfl) (by simp) ?_
        refine AllReadyH.cons (o := ⟨none, Op.store 57 (Operand.tmp 6) (Operand.tmp 20), _, _, _, _⟩) rfl (fun K hK => ?_) AllReadyH.nil
        go_simp
        refine hK.out _ _ (show (X8.setCells g 0 (bt x)).cell? ⟨t, 1, none⟩ = _ from (World.cell?_of_block (heap_setCells_other g t HTG.out _ _ _)).trans hHeld) (fun hHeld => ?_)
        clear hK K
        try simp only [Act.put, List.setIfInBounds_toArray, List.set_cons_zero, List.set_cons_succ]
        refine wpAnyH_take (i := 13) (oi := ⟨some 7, Op.assign (Operand.tmp 21), _, _, _, _⟩) (v := ?v18) rfl (by kernel_rfl) (by kernel_rfl) (by kernel_rfl) (fun _ _ _ h => h) (Or.inl ⟨by rfl, ?hy18⟩) (by assumption) ?rest18
        case hy18 => ((intro w0 hSw; go_simp); try (with_reducible rfl))
        try simp only [Act.put, List.setIfInBounds_toArray, List.set_cons_zero, List.set_cons_succ]
        refine wpAnyH_done (by kernel_rfl) ?_ _
        have HR5 : Hid ((X8.setCells g 0 (bt x)).rangeAt g 0 (bt x)) := Lib.hid (range_at x X8 g _ HM.out.var rfl)
        have HE5 : Hid ((X8.setCells g 0 (bt x)).heap[w.heap.size]? = _) := Lib.hid ((heap_setCells_other g w.heap.size HM.out.ne _ _ _).trans HM.out.res)
        have HZ5 := Lib.hid (setCells_rest g (bt x) 0 X8)
        have HO5 : Hid (∀ k, k ≠ g → (X8.setCells g 0 (bt x)).heap[k]? = X8.heap[k]?) := Lib.hid (fun k hk => heap_setCells_other g k hk _ _ _)
        clear hst4
        generalize X8.setCells g 0 (bt x) = Y at *
        go_wp2_with (first
          | ((with_reducible refine load_bt x _ g ?_ HR5.out ?_); (rfl))
          | ((with_reducible refine store_any x _ _ _ w.heap.size ?_ ?_ HE5.out ?_ ?_); (rfl); (rfl); (rfl)))
        have hfin := aside (W3 := w) (grown_refl _ _) HP.out HM.out.turn HM.out.pool (W5 := Y.setRow w.heap.size (ba x)) HZ5.out.1 HZ5.out.2.1 HZ5.out.2.2.1 (by have := HZ5.out.2.2.2; simp; omega) (fun k hk hk2 => (setRow_other _ _ _ _ (by rcases hk2 with h | h; omega; exact fun e => HM.out.vr (e ▸ h))).trans (HO5.out k (by rcases hk2 with h | h; (have := HM.out.ge; omega); exact fun e => HM.out.vg (e ▸ h))))
        exact ret_bte rfl _ x _ w.heap.size _ _ (by rfl) (by rfl) (range_of (setRow_heap _ _ _ _ _ _ HE5.out)) ⟨rfl, v', hfin.1, hfin.2⟩
set_option maxHeartbeats 4000000 in
theorem find_gen (b k : Int) (x : Bk) (e : Int) (ns' : List Bk) (hff : ff ns b 0 = k) (hTK : ∀ w', w.grownBy w' none → Calls Tryd.prog 32 #[.pointer (some ⟨p, 0, none⟩), .int .i64 k] w' fun e' w'' => e' = .returned (.tuple #[.agg (ba x), .int .i64 e]) ∧ ∃ v', BPool w'' p v' m ns' ∧ Turn w' w'' p v v') :
    Calls Tryd.prog 13 #[.pointer (some ⟨t, 0, none⟩), .int .i64 b] w fun e' w' => e' = .returned (.tuple #[.agg (row x.d), .bool x.l, .bool (e == 0)]) ∧ ∃ v', BPool w' p v' m ns' ∧ Turn w w' p v v' := by
  obtain ⟨w2, hw, hg2, hb2, hs2⟩ := onerow w
  have hz : row zd = _ := zrow
  rw [hz] at hw
  have HPL : Hid (∀ w', w.grownBy w' none → _) := Lib.hid fun w' h => place_any t p v n m ns w' (H.grown h) b
  rw [hff] at HPL
  have HTK := Lib.hid hTK
  have hc : w2.cell? ⟨t, 1, none⟩ = _ := (H.grown hg2).c1
  have HG2 := Lib.hid hg2
  have HB2 := Lib.hid hb2
  have HS2 := Lib.hid hs2
  have HP := Lib.hid H.pool.lt
  have HV := Lib.hid H.pool.sl.lt
  have HH := Lib.hid H
  have hsz := ba_size x
  clear H hff hg2 hb2 hs2 hz hTK
  go_enter Tryd.func13, Tryd.ntmps13
  go_wp2_with fail
  refine wp_region_held_drew (S := fun W => W.cell? ⟨t, 1, none⟩ = some (.pointer (some ⟨p, 0, none⟩))) (by kernel_rfl) hc (fun hHeld => ?_)
  have HG0 := Lib.hid (grown_drew (grown_refl w2 none))
  generalize w2.drew = W0 at hHeld HG0 ⊢
  refine wpAnyH_take (i := 0) (oi := ⟨some 13, Op.move (Operand.tmp 0), _, _, _, _⟩) (v := ?v19) rfl (by kernel_rfl) (by kernel_rfl) (by kernel_rfl) (fun _ _ _ h => h) (Or.inl ⟨by rfl, ?hy19⟩) (by assumption) ?rest19
  case hy19 => ((intro w0 hSw; go_simp); try (with_reducible rfl))
  try simp only [Act.put, List.setIfInBounds_toArray, List.set_cons_zero, List.set_cons_succ]
  refine wpAnyH_take (i := 1) (oi := ⟨some 14, Op.nilCheck (Operand.tmp 13), _, _, _, _⟩) (v := ?v20) rfl (by kernel_rfl) (by kernel_rfl) (by kernel_rfl) (fun _ _ _ h => h) (Or.inl ⟨by rfl, ?hy20⟩) (by assumption) ?rest20
  case hy20 => ((intro w0 hSw; go_simp); try (with_reducible rfl))
  try simp only [Act.put, List.setIfInBounds_toArray, List.set_cons_zero, List.set_cons_succ]
  refine wpAnyH_take (i := 2) (oi := ⟨some 15, Op.fieldAddr 59 (Operand.tmp 14) 1, _, _, _, _⟩) (v := ?v21) rfl (by kernel_rfl) (by kernel_rfl) (by kernel_rfl) (fun _ _ _ h => h) (Or.inl ⟨by rfl, ?hy21⟩) (by assumption) ?rest21
  case hy21 => ((intro w0 hSw; go_simp); try (with_reducible rfl))
  try simp only [Act.put, List.setIfInBounds_toArray, List.set_cons_zero, List.set_cons_succ]
  refine wpAnyH_take (i := 3) (oi := ⟨some 16, Op.load 53 (Operand.tmp 15), _, _, _, _⟩) (v := ?v22) rfl (by kernel_rfl) (by kernel_rfl) (by kernel_rfl) (fun _ _ _ h => h) (Or.inl ⟨by rfl, ?hy22⟩) (by assumption) ?rest22
  case hy22 => ((intro w0 hSw; go_simp); try (with_reducible rfl))
  try simp only [Act.put, List.setIfInBounds_toArray, List.set_cons_zero, List.set_cons_succ]
  refine wpAnyH_take (i := 4) (oi := ⟨some 17, Op.move (Operand.tmp 0), _, _, _, _⟩) (v := ?v23) rfl (by kernel_rfl) (by kernel_rfl) (by kernel_rfl) (fun _ _ _ h => h) (Or.inl ⟨by rfl, ?hy23⟩) (by assumption) ?rest23
  case hy23 => ((intro w0 hSw; go_simp); try (with_reducible rfl))
  try simp only [Act.put, List.setIfInBounds_toArray, List.set_cons_zero, List.set_cons_succ]
  refine wpAnyH_take (i := 5) (oi := ⟨some 18, Op.move (Operand.tmp 1), _, _, _, _⟩) (v := ?v24) rfl (by kernel_rfl) (by kernel_rfl) (by kernel_rfl) (fun _ _ _ h => h) (Or.inl ⟨by rfl, ?hy24⟩) (by assumption) ?rest24
  case hy24 => ((intro w0 hSw; go_simp); try (with_reducible rfl))
  try simp only [Act.put, List.setIfInBounds_toArray, List.set_cons_zero, List.set_cons_succ]
  refine wpAnyH_ready (rs := [6, 11]) (by kernel_rfl) (by simp) (AllReadyH.cons (o := ⟨some 19, Op.call { callee := Callee.value (Operand.func 29), args := #[(Operand.tmp 17), (Operand.tmp 18)], argTypes := #[22, 3] }, _, _, _, _⟩) rfl (fun K hK => ?_) (AllReadyH.cons (o := ⟨some 7, Op.alloc 57, _, _, _, _⟩) rfl (fun K hK => ?_) AllReadyH.nil))
  · go_simp
    (with_reducible refine (HPL.out _ (grown_trans HG2.out HG0.out)).mono ?_); rintro e X1 ⟨rfl, hgn⟩
    have HG1 := Lib.hid (grown_trans HG0.out hgn)
    go_wp2_with fail
    refine hK.out _ _ ((HH.out.grown (grown_trans HG2.out HG1.out)).c1) (fun hHeld => ?_)
    clear hK K hgn
    try simp only [Act.put, List.setIfInBounds_toArray, List.set_cons_zero, List.set_cons_succ]
    refine wpAnyH_ready (rs := [7, 11]) (by kernel_rfl) (by simp) (AllReadyH.cons (o := ⟨some 20, Op.call { callee := Callee.value (Operand.func 32), args := #[(Operand.tmp 16), (Operand.tmp 19)], argTypes := #[53, 3] }, _, _, _, _⟩) rfl (fun K hK => ?_) (AllReadyH.cons (o := ⟨some 7, Op.alloc 57, _, _, _, _⟩) rfl (fun K hK => ?_) AllReadyH.nil))
    · go_simp
      (with_reducible refine (HTK.out _ (grown_trans HG2.out HG1.out)).mono ?_); rintro e X2 ⟨rfl, v', hP4, hT4⟩
      have HPT := Lib.hid hP4
      have HTT := Lib.hid ((Turn.of_grown p v (grown_trans HG2.out HG1.out)).trans hT4)
      have hRlt : w.heap.size < X1.heap.size := by have := lt_of HB2.out; have := HG1.out.size; omega
      have hRv : some w.heap.size ≠ v.ownBlock := fun e => by have := HV.out _ e.symm; omega
      have HRT := Lib.hid ((hT4.block w.heap.size hRlt (by have := HP.out; omega) hRv).trans ((HG1.out.block w.heap.size (lt_of HB2.out) (by simp)).trans HB2.out))
      have HVR : Hid (v'.ownBlock ≠ some w.heap.size) := Lib.hid (fun e => hT4.next.ne hRlt hRv e.symm)
      have hcT := (World.cell?_of_block (a := ⟨t, 1, none⟩) (HTT.out.block t HH.out.lt HH.out.tp HH.out.tv)).trans HH.out.c1
      go_wp2_with fail
      refine hK.out _ _ hcT (fun hHeld => ?_)
      clear hK K hcT hP4 hT4 hRlt hRv
      try simp only [Act.put, List.setIfInBounds_toArray, List.set_cons_zero, List.set_cons_succ]
      refine wpAnyH_take (i := 8) (oi := ⟨some 12, Op.move (Operand.tmp 20), _, _, _, _⟩) (v := ?v25) rfl (by kernel_rfl) (by kernel_rfl) (by kernel_rfl) (fun _ _ _ h => h) (Or.inl ⟨by rfl, ?hy25⟩) (by assumption) ?rest25
      case hy25 => ((intro w0 hSw; go_simp); try (with_reducible rfl))
      try simp only [Act.put, List.setIfInBounds_toArray, List.set_cons_zero, List.set_cons_succ]
      refine wpAnyH_take (i := 9) (oi := ⟨some 21, Op.extract (Operand.tmp 12) 0, _, _, _, _⟩) (v := ?v26) rfl (by kernel_rfl) (by kernel_rfl) (by kernel_rfl) (fun _ _ _ h => h) (Or.inl ⟨by rfl, ?hy26⟩) (by assumption) ?rest26
      case hy26 => ((intro w0 hSw; go_simp); try (with_reducible rfl))
      try simp only [Act.put, List.setIfInBounds_toArray, List.set_cons_zero, List.set_cons_succ]
      refine wpAnyH_take (i := 10) (oi := ⟨some 22, Op.extract (Operand.tmp 12) 1, _, _, _, _⟩) (v := ?v27) rfl (by kernel_rfl) (by kernel_rfl) (by kernel_rfl) (fun _ _ _ h => h) (Or.inl ⟨by rfl, ?hy27⟩) (by assumption) ?rest27
      case hy27 => ((intro w0 hSw; go_simp); try (with_reducible rfl))
      try simp only [Act.put, List.setIfInBounds_toArray, List.set_cons_zero, List.set_cons_succ]
      refine wpAnyH_ready (rs := [11]) (by kernel_rfl) (by simp) (AllReadyH.cons (o := ⟨some 7, Op.alloc 57, _, _, _, _⟩) rfl (fun K hK => ?_) AllReadyH.nil)
      · go_simp
        refine hK.out _ _ ((World.cell?_alloc_some _ _ _ (by rw [hHeld]; rfl)).trans hHeld) (fun hHeld => ?_)
        clear hK K
        try simp only [Act.put, List.setIfInBounds_toArray, List.set_cons_zero, List.set_cons_succ]
        have HBG := Lib.hid (heap_alloc_new X2 (.cells (ba zb) 57))
        have HSG := Lib.hid (show X2.heap.size = X2.heap.size from rfl)
        obtain ⟨g, hgg⟩ : ∃ g, X2.heap.size = g := ⟨_, rfl⟩
        rw [hgg] at HBG ⊢
        have HGG := Lib.hid hgg
        clear hgg
        have HPX := Lib.hid (HPT.out.grown (grown_alloc (grown_refl X2 none) (.cells (ba zb) 57)))
        have HTX := Lib.hid (HTT.out.trans (Turn.of_grown p v' (grown_alloc (grown_refl X2 none) (.cells (ba zb) 57))))
        have HRX := Lib.hid ((Below.heap_alloc X2 (.cells (ba zb) 57) _ (lt_of HRT.out)).trans HRT.out)
        have HWX : Hid (X2.alloc (.cells (ba zb) 57) = _) := Lib.hid rfl
        obtain ⟨X3, hX⟩ : ∃ X, X2.alloc (.cells (ba zb) 57) = X := ⟨_, rfl⟩
        have hX' : X2.alloc (.cells #[.int .i64 0, .int .u32 0, .int .u32 0, .int .u32 0, .int .u32 0, .int .u32 0, .int .u32 0, .int .u32 0, .int .u32 0, .int .u32 0, .int .u32 0, .int .u32 0, .int .u32 0, .int .u32 0, .int .u32 0, .int .u32 0, .int .u32 0, .bool false] 57) = X3 := hX
        rw [hX'] at hHeld ⊢
        rw [hX] at HBG HPX HTX HRX
        clear hX hX' HWX HSG
        have HTG : Hid (t ≠ g) := Lib.hid (by have := HH.out.lt; have := HG2.out.size; have := HTT.out.size; have := HGG.out; omega)
        have HM : Hid (Met w X3 p g w.heap.size 33 (row zd) v v' m ns') := Lib.hid ⟨HPX.out, HTX.out, HBG.out, HRX.out, by have := HTT.out.size; have := HGG.out; omega, by have := lt_of HRT.out; have := HGG.out; omega, Nat.le_refl _, fun e => by have := HPT.out.sl.lt _ e; have := HGG.out; omega, HVR.out⟩
        have hst4 := store_at x X3 g _ HM.out.var rfl
        refine wpAnyH_ready (rs := [12]) (by kernel_rfl) (by simp) ?_
        refine AllReadyH.cons (o := ⟨none, Op.store 57 (Operand.tmp 7) (Operand.tmp 21), _, _, _, _⟩) rfl (fun K hK => ?_) AllReadyH.nil
        go_simp
        refine hK.out _ _ (show (X3.setCells g 0 (bt x)).cell? ⟨t, 1, none⟩ = _ from (World.cell?_of_block (heap_setCells_other g t HTG.out _ _ _)).trans hHeld) (fun hHeld => ?_)
        clear hK K
        try simp only [Act.put, List.setIfInBounds_toArray, List.set_cons_zero, List.set_cons_succ]
        refine wpAnyH_take (i := 13) (oi := ⟨some 8, Op.assign (Operand.tmp 22), _, _, _, _⟩) (v := ?v28) rfl (by kernel_rfl) (by kernel_rfl) (by kernel_rfl) (fun _ _ _ h => h) (Or.inl ⟨by rfl, ?hy28⟩) (by assumption) ?rest28
        case hy28 => ((intro w0 hSw; go_simp); try (with_reducible rfl))
        try simp only [Act.put, List.setIfInBounds_toArray, List.set_cons_zero, List.set_cons_succ]
        refine wpAnyH_done (by kernel_rfl) ?_ _
        have HR5 : Hid ((X3.setCells g 0 (bt x)).rangeAt g 0 (bt x)) := Lib.hid (range_at x X3 g _ HM.out.var rfl)
        have HE5 : Hid ((X3.setCells g 0 (bt x)).heap[w.heap.size]? = _) := Lib.hid ((heap_setCells_other g w.heap.size HM.out.ne _ _ _).trans HM.out.res)
        have HZ5 := Lib.hid (setCells_rest g (bt x) 0 X3)
        have HO5 : Hid (∀ k, k ≠ g → (X3.setCells g 0 (bt x)).heap[k]? = X3.heap[k]?) := Lib.hid (fun k hk => heap_setCells_other g k hk _ _ _)
        clear hst4
        generalize X3.setCells g 0 (bt x) = Y at *
        go_wp2_with fail
        obtain ⟨ty, sz, HTY, hagg, hsize, hld, hsr, hst⟩ := named29
        have hsr := hsr x.d x.hd
        have hl1 := hld g 1 x.d x.hd Y.drew (range_d HR5.out)
        have h17 : Y.cell? ⟨g, 17, none⟩ = some (.bool x.l) := cell_at HR5.out 17 _ (bt_l x)
        have hs2 := hst w.heap.size 0 x.d x.hd Y.drew (there16 HE5.out rfl)
        have hs17 : (Y.drew.setCells w.heap.size 0 (x.d.map U)).cell? ⟨g, 17, none⟩ = some (.bool x.l) := (World.cell?_of_block (heap_setCells_other w.heap.size g (Ne.symm HM.out.ne) _ _ _)).trans h17
        clear hld hst
        rw [HTY.out.1, HTY.out.2]
        go_region
        all_goals
          have HRR : Hid ((Y.drew.setCells w.heap.size 0 (x.d.map U)).rangeAt w.heap.size 0 (x.d.map U)) := Lib.hid (World.rangeAt_setCells_same _ _ _ _ (fun i hi => (there16 (w := Y.drew) HE5.out rfl) i (by simpa [x.hd] using hi)))
          have HZ6 := Lib.hid (setCells_rest w.heap.size (x.d.map U) 0 Y.drew)
          have hfin := aside (W3 := w) (grown_refl _ _) HP.out HM.out.turn HM.out.pool (W5 := Y.drew.setCells w.heap.size 0 (x.d.map U)) (HZ6.out.1.trans HZ5.out.1) (HZ6.out.2.1.trans HZ5.out.2.1) (HZ6.out.2.2.1.trans HZ5.out.2.2.1) (by have h1 := HZ5.out.2.2.2; have h2 := HZ6.out.2.2.2; rw [h2]; show _ ≤ Y.heap.size; omega) (fun k hk hk2 => (heap_setCells_other _ k (by rcases hk2 with h | h; omega; exact fun e => HM.out.vr (e ▸ h)) _ _ _).trans (HO5.out k (by rcases hk2 with h | h; (have := HM.out.ge; omega); exact fun e => HM.out.vg (e ▸ h))))
          clear hl1 h17 hs2 hs17
          go_wp2_with fail
          exact ret_row3 rfl _ x.d x.hd _ _ w.heap.size _ _ (by rfl) (by rfl) (by rfl) HRR.out ⟨rfl, v', hfin.1, hfin.2⟩
    · go_simp
      refine hK.out _ _ ((World.cell?_alloc_some _ _ _ (by rw [hHeld]; rfl)).trans hHeld) (fun hHeld => ?_)
      clear hK K
      try simp only [Act.put, List.setIfInBounds_toArray, List.set_cons_zero, List.set_cons_succ]
      have HBG := Lib.hid (heap_alloc_new X1 (.cells (ba zb) 57))
      have HSG := Lib.hid (show X1.heap.size = X1.heap.size from rfl)
      obtain ⟨g, hgg⟩ : ∃ g, X1.heap.size = g := ⟨_, rfl⟩
      rw [hgg] at HBG ⊢
      have HGG := Lib.hid hgg
      have HGL : Hid (w2.heap.size ≤ g) := Lib.hid (by have := HG1.out.size; omega)
      clear hgg
      have HG4 := Lib.hid (grown_alloc HG1.out (.cells (ba zb) 57))
      have HWX : Hid (X1.alloc (.cells (ba zb) 57) = _) := Lib.hid rfl
      obtain ⟨X4, hX⟩ : ∃ X, X1.alloc (.cells (ba zb) 57) = X := ⟨_, rfl⟩
      have hX' : X1.alloc (.cells #[.int .i64 0, .int .u32 0, .int .u32 0, .int .u32 0, .int .u32 0, .int .u32 0, .int .u32 0, .int .u32 0, .int .u32 0, .int .u32 0, .int .u32 0, .int .u32 0, .int .u32 0, .int .u32 0, .int .u32 0, .int .u32 0, .int .u32 0, .bool false] 57) = X4 := hX
      rw [hX'] at hHeld ⊢
      rw [hX] at HBG HG4
      clear hX hX' HWX HSG
      refine wpAnyH_ready (rs := [7]) (by kernel_rfl) (by simp) (AllReadyH.cons (o := ⟨some 20, Op.call { callee := Callee.value (Operand.func 32), args := #[(Operand.tmp 16), (Operand.tmp 19)], argTypes := #[53, 3] }, _, _, _, _⟩) rfl (fun K hK => ?_) AllReadyH.nil)
      · go_simp
        (with_reducible refine (HTK.out _ (grown_trans HG2.out HG4.out)).mono ?_); rintro e X5 ⟨rfl, v', hP4, hT4⟩
        have HPT := Lib.hid hP4
        have HTT := Lib.hid ((Turn.of_grown p v (grown_trans HG2.out HG4.out)).trans hT4)
        have hRlt : w.heap.size < X4.heap.size := by have := lt_of HB2.out; have := HG4.out.size; omega
        have hRv : some w.heap.size ≠ v.ownBlock := fun e => by have := HV.out _ e.symm; omega
        have HRT := Lib.hid ((hT4.block w.heap.size hRlt (by have := HP.out; omega) hRv).trans ((HG4.out.block w.heap.size (lt_of HB2.out) (by simp)).trans HB2.out))
        have HVR : Hid (v'.ownBlock ≠ some w.heap.size) := Lib.hid (fun e => hT4.next.ne hRlt hRv e.symm)
        have hglt := lt_of HBG.out
        have hgw : w.heap.size < g := by have := lt_of HB2.out; have := HGL.out; omega
        have hgv : some g ≠ v.ownBlock := fun e => by have := HV.out _ e.symm; omega
        have HTG : Hid (t ≠ g) := Lib.hid (by have := HH.out.lt; omega)
        have HM : Hid (Met w X5 p g w.heap.size 33 (row zd) v v' m ns') := Lib.hid ⟨HPT.out, HTT.out, (hT4.block g hglt (by have := HP.out; omega) hgv).trans HBG.out, HRT.out, by omega, by omega, Nat.le_refl _, fun e => hT4.next.ne hglt hgv e.symm, HVR.out⟩
        have hcT := (World.cell?_of_block (a := ⟨t, 1, none⟩) (HTT.out.block t HH.out.lt HH.out.tp HH.out.tv)).trans HH.out.c1
        go_wp2_with fail
        refine hK.out _ _ hcT (fun hHeld => ?_)
        clear hK K hcT hP4 hT4 hRlt hRv hglt hgw hgv
        try simp only [Act.put, List.setIfInBounds_toArray, List.set_cons_zero, List.set_cons_succ]
        refine wpAnyH_take (i := 8) (oi := ⟨some 12, Op.move (Operand.tmp 20), _, _, _, _⟩) (v := ?v29) rfl (by kernel_rfl) (by kernel_rfl) (by kernel_rfl) (fun _ _ _ h => h) (Or.inl ⟨by rfl, ?hy29⟩) (by assumption) ?rest29
        case hy29 => ((intro w0 hSw; go_simp); try (with_reducible rfl))
        try simp only [Act.put, List.setIfInBounds_toArray, List.set_cons_zero, List.set_cons_succ]
        refine wpAnyH_take (i := 9) (oi := ⟨some 21, Op.extract (Operand.tmp 12) 0, _, _, _, _⟩) (v := ?v30) rfl (by kernel_rfl) (by kernel_rfl) (by kernel_rfl) (fun _ _ _ h => h) (Or.inl ⟨by rfl, ?hy30⟩) (by assumption) ?rest30
        case hy30 => ((intro w0 hSw; go_simp); try (with_reducible rfl))
        try simp only [Act.put, List.setIfInBounds_toArray, List.set_cons_zero, List.set_cons_succ]
        refine wpAnyH_take (i := 10) (oi := ⟨some 22, Op.extract (Operand.tmp 12) 1, _, _, _, _⟩) (v := ?v31) rfl (by kernel_rfl) (by kernel_rfl) (by kernel_rfl) (fun _ _ _ h => h) (Or.inl ⟨by rfl, ?hy31⟩) (by assumption) ?rest31
        case hy31 => ((intro w0 hSw; go_simp); try (with_reducible rfl))
        try simp only [Act.put, List.setIfInBounds_toArray, List.set_cons_zero, List.set_cons_succ]
        have hst4 := store_at x X5 g _ HM.out.var rfl
        refine wpAnyH_ready (rs := [12]) (by kernel_rfl) (by simp) ?_
        refine AllReadyH.cons (o := ⟨none, Op.store 57 (Operand.tmp 7) (Operand.tmp 21), _, _, _, _⟩) rfl (fun K hK => ?_) AllReadyH.nil
        go_simp
        refine hK.out _ _ (show (X5.setCells g 0 (bt x)).cell? ⟨t, 1, none⟩ = _ from (World.cell?_of_block (heap_setCells_other g t HTG.out _ _ _)).trans hHeld) (fun hHeld => ?_)
        clear hK K
        try simp only [Act.put, List.setIfInBounds_toArray, List.set_cons_zero, List.set_cons_succ]
        refine wpAnyH_take (i := 13) (oi := ⟨some 8, Op.assign (Operand.tmp 22), _, _, _, _⟩) (v := ?v32) rfl (by kernel_rfl) (by kernel_rfl) (by kernel_rfl) (fun _ _ _ h => h) (Or.inl ⟨by rfl, ?hy32⟩) (by assumption) ?rest32
        case hy32 => ((intro w0 hSw; go_simp); try (with_reducible rfl))
        try simp only [Act.put, List.setIfInBounds_toArray, List.set_cons_zero, List.set_cons_succ]
        refine wpAnyH_done (by kernel_rfl) ?_ _
        have HR5 : Hid ((X5.setCells g 0 (bt x)).rangeAt g 0 (bt x)) := Lib.hid (range_at x X5 g _ HM.out.var rfl)
        have HE5 : Hid ((X5.setCells g 0 (bt x)).heap[w.heap.size]? = _) := Lib.hid ((heap_setCells_other g w.heap.size HM.out.ne _ _ _).trans HM.out.res)
        have HZ5 := Lib.hid (setCells_rest g (bt x) 0 X5)
        have HO5 : Hid (∀ k, k ≠ g → (X5.setCells g 0 (bt x)).heap[k]? = X5.heap[k]?) := Lib.hid (fun k hk => heap_setCells_other g k hk _ _ _)
        clear hst4
        generalize X5.setCells g 0 (bt x) = Y at *
        go_wp2_with fail
        obtain ⟨ty, sz, HTY, hagg, hsize, hld, hsr, hst⟩ := named29
        have hsr := hsr x.d x.hd
        have hl1 := hld g 1 x.d x.hd Y.drew (range_d HR5.out)
        have h17 : Y.cell? ⟨g, 17, none⟩ = some (.bool x.l) := cell_at HR5.out 17 _ (bt_l x)
        have hs2 := hst w.heap.size 0 x.d x.hd Y.drew (there16 HE5.out rfl)
        have hs17 : (Y.drew.setCells w.heap.size 0 (x.d.map U)).cell? ⟨g, 17, none⟩ = some (.bool x.l) := (World.cell?_of_block (heap_setCells_other w.heap.size g (Ne.symm HM.out.ne) _ _ _)).trans h17
        clear hld hst
        rw [HTY.out.1, HTY.out.2]
        go_region
        all_goals
          have HRR : Hid ((Y.drew.setCells w.heap.size 0 (x.d.map U)).rangeAt w.heap.size 0 (x.d.map U)) := Lib.hid (World.rangeAt_setCells_same _ _ _ _ (fun i hi => (there16 (w := Y.drew) HE5.out rfl) i (by simpa [x.hd] using hi)))
          have HZ6 := Lib.hid (setCells_rest w.heap.size (x.d.map U) 0 Y.drew)
          have hfin := aside (W3 := w) (grown_refl _ _) HP.out HM.out.turn HM.out.pool (W5 := Y.drew.setCells w.heap.size 0 (x.d.map U)) (HZ6.out.1.trans HZ5.out.1) (HZ6.out.2.1.trans HZ5.out.2.1) (HZ6.out.2.2.1.trans HZ5.out.2.2.1) (by have h1 := HZ5.out.2.2.2; have h2 := HZ6.out.2.2.2; rw [h2]; show _ ≤ Y.heap.size; omega) (fun k hk hk2 => (heap_setCells_other _ k (by rcases hk2 with h | h; omega; exact fun e => HM.out.vr (e ▸ h)) _ _ _).trans (HO5.out k (by rcases hk2 with h | h; (have := HM.out.ge; omega); exact fun e => HM.out.vg (e ▸ h))))
          clear hl1 h17 hs2 hs17
          go_wp2_with fail
          exact ret_row3 rfl _ x.d x.hd _ _ w.heap.size _ _ (by rfl) (by rfl) (by rfl) HRR.out ⟨rfl, v', hfin.1, hfin.2⟩
  · go_simp
    refine hK.out _ _ ((World.cell?_alloc_some _ _ _ (by rw [hHeld]; rfl)).trans hHeld) (fun hHeld => ?_)
    clear hK K
    try simp only [Act.put, List.setIfInBounds_toArray, List.set_cons_zero, List.set_cons_succ]
    have HBG := Lib.hid (heap_alloc_new W0 (.cells (ba zb) 57))
    have HSG := Lib.hid (show W0.heap.size = W0.heap.size from rfl)
    obtain ⟨g, hgg⟩ : ∃ g, W0.heap.size = g := ⟨_, rfl⟩
    rw [hgg] at HBG ⊢
    have HGG := Lib.hid hgg
    have HGL : Hid (w2.heap.size ≤ g) := Lib.hid (by have := HG0.out.size; omega)
    clear hgg
    have HG6 := Lib.hid (grown_alloc HG0.out (.cells (ba zb) 57))
    have HWX : Hid (W0.alloc (.cells (ba zb) 57) = _) := Lib.hid rfl
    obtain ⟨X6, hX⟩ : ∃ X, W0.alloc (.cells (ba zb) 57) = X := ⟨_, rfl⟩
    have hX' : W0.alloc (.cells #[.int .i64 0, .int .u32 0, .int .u32 0, .int .u32 0, .int .u32 0, .int .u32 0, .int .u32 0, .int .u32 0, .int .u32 0, .int .u32 0, .int .u32 0, .int .u32 0, .int .u32 0, .int .u32 0, .int .u32 0, .int .u32 0, .int .u32 0, .bool false] 57) = X6 := hX
    rw [hX'] at hHeld ⊢
    rw [hX] at HBG HG6
    clear hX hX' HWX HSG
    refine wpAnyH_ready (rs := [6]) (by kernel_rfl) (by simp) (AllReadyH.cons (o := ⟨some 19, Op.call { callee := Callee.value (Operand.func 29), args := #[(Operand.tmp 17), (Operand.tmp 18)], argTypes := #[22, 3] }, _, _, _, _⟩) rfl (fun K hK => ?_) AllReadyH.nil)
    · go_simp
      (with_reducible refine (HPL.out _ (grown_trans HG2.out HG6.out)).mono ?_); rintro e X7 ⟨rfl, hgn⟩
      have HG7 := Lib.hid (grown_trans HG6.out hgn)
      replace HBG := Lib.hid ((hgn.block g (lt_of HBG.out) (by simp)).trans HBG.out)
      go_wp2_with fail
      refine hK.out _ _ ((HH.out.grown (grown_trans HG2.out HG7.out)).c1) (fun hHeld => ?_)
      clear hK K hgn
      try simp only [Act.put, List.setIfInBounds_toArray, List.set_cons_zero, List.set_cons_succ]
      refine wpAnyH_ready (rs := [7]) (by kernel_rfl) (by simp) (AllReadyH.cons (o := ⟨some 20, Op.call { callee := Callee.value (Operand.func 32), args := #[(Operand.tmp 16), (Operand.tmp 19)], argTypes := #[53, 3] }, _, _, _, _⟩) rfl (fun K hK => ?_) AllReadyH.nil)
      · go_simp
        (with_reducible refine (HTK.out _ (grown_trans HG2.out HG7.out)).mono ?_); rintro e X8 ⟨rfl, v', hP4, hT4⟩
        have HPT := Lib.hid hP4
        have HTT := Lib.hid ((Turn.of_grown p v (grown_trans HG2.out HG7.out)).trans hT4)
        have hRlt : w.heap.size < X7.heap.size := by have := lt_of HB2.out; have := HG7.out.size; omega
        have hRv : some w.heap.size ≠ v.ownBlock := fun e => by have := HV.out _ e.symm; omega
        have HRT := Lib.hid ((hT4.block w.heap.size hRlt (by have := HP.out; omega) hRv).trans ((HG7.out.block w.heap.size (lt_of HB2.out) (by simp)).trans HB2.out))
        have HVR : Hid (v'.ownBlock ≠ some w.heap.size) := Lib.hid (fun e => hT4.next.ne hRlt hRv e.symm)
        have hglt := lt_of HBG.out
        have hgw : w.heap.size < g := by have := lt_of HB2.out; have := HGL.out; omega
        have hgv : some g ≠ v.ownBlock := fun e => by have := HV.out _ e.symm; omega
        have HTG : Hid (t ≠ g) := Lib.hid (by have := HH.out.lt; omega)
        have HM : Hid (Met w X8 p g w.heap.size 33 (row zd) v v' m ns') := Lib.hid ⟨HPT.out, HTT.out, (hT4.block g hglt (by have := HP.out; omega) hgv).trans HBG.out, HRT.out, by omega, by omega, Nat.le_refl _, fun e => hT4.next.ne hglt hgv e.symm, HVR.out⟩
        have hcT := (World.cell?_of_block (a := ⟨t, 1, none⟩) (HTT.out.block t HH.out.lt HH.out.tp HH.out.tv)).trans HH.out.c1
        go_wp2_with fail
        refine hK.out _ _ hcT (fun hHeld => ?_)
        clear hK K hcT hP4 hT4 hRlt hRv hglt hgw hgv
        try simp only [Act.put, List.setIfInBounds_toArray, List.set_cons_zero, List.set_cons_succ]
        refine wpAnyH_take (i := 8) (oi := ⟨some 12, Op.move (Operand.tmp 20), _, _, _, _⟩) (v := ?v33) rfl (by kernel_rfl) (by kernel_rfl) (by kernel_rfl) (fun _ _ _ h => h) (Or.inl ⟨by rfl, ?hy33⟩) (by assumption) ?rest33
        case hy33 => ((intro w0 hSw; go_simp); try (with_reducible rfl))
        try simp only [Act.put, List.setIfInBounds_toArray, List.set_cons_zero, List.set_cons_succ]
        refine wpAnyH_take (i := 9) (oi := ⟨some 21, Op.extract (Operand.tmp 12) 0, _, _, _, _⟩) (v := ?v34) rfl (by kernel_rfl) (by kernel_rfl) (by kernel_rfl) (fun _ _ _ h => h) (Or.inl ⟨by rfl, ?hy34⟩) (by assumption) ?rest34
        case hy34 => ((intro w0 hSw; go_simp); try (with_reducible rfl))
        try simp only [Act.put, List.setIfInBounds_toArray, List.set_cons_zero, List.set_cons_succ]
        refine wpAnyH_take (i := 10) (oi := ⟨some 22, Op.extract (Operand.tmp 12) 1, _, _, _, _⟩) (v := ?v35) rfl (by kernel_rfl) (by kernel_rfl) (by kernel_rfl) (fun _ _ _ h => h) (Or.inl ⟨by rfl, ?hy35⟩) (by assumption) ?rest35
        case hy35 => ((intro w0 hSw; go_simp); try (with_reducible rfl))
        try simp only [Act.put, List.setIfInBounds_toArray, List.set_cons_zero, List.set_cons_succ]
        have hst4 := store_at x X8 g _ HM.out.var rfl
        refine wpAnyH_ready (rs := [12]) (by kernel_rfl) (by simp) ?_
        refine AllReadyH.cons (o := ⟨none, Op.store 57 (Operand.tmp 7) (Operand.tmp 21), _, _, _, _⟩) rfl (fun K hK => ?_) AllReadyH.nil
        go_simp
        refine hK.out _ _ (show (X8.setCells g 0 (bt x)).cell? ⟨t, 1, none⟩ = _ from (World.cell?_of_block (heap_setCells_other g t HTG.out _ _ _)).trans hHeld) (fun hHeld => ?_)
        clear hK K
        try simp only [Act.put, List.setIfInBounds_toArray, List.set_cons_zero, List.set_cons_succ]
        refine wpAnyH_take (i := 13) (oi := ⟨some 8, Op.assign (Operand.tmp 22), _, _, _, _⟩) (v := ?v36) rfl (by kernel_rfl) (by kernel_rfl) (by kernel_rfl) (fun _ _ _ h => h) (Or.inl ⟨by rfl, ?hy36⟩) (by assumption) ?rest36
        case hy36 => ((intro w0 hSw; go_simp); try (with_reducible rfl))
        try simp only [Act.put, List.setIfInBounds_toArray, List.set_cons_zero, List.set_cons_succ]
        refine wpAnyH_done (by kernel_rfl) ?_ _
        have HR5 : Hid ((X8.setCells g 0 (bt x)).rangeAt g 0 (bt x)) := Lib.hid (range_at x X8 g _ HM.out.var rfl)
        have HE5 : Hid ((X8.setCells g 0 (bt x)).heap[w.heap.size]? = _) := Lib.hid ((heap_setCells_other g w.heap.size HM.out.ne _ _ _).trans HM.out.res)
        have HZ5 := Lib.hid (setCells_rest g (bt x) 0 X8)
        have HO5 : Hid (∀ k, k ≠ g → (X8.setCells g 0 (bt x)).heap[k]? = X8.heap[k]?) := Lib.hid (fun k hk => heap_setCells_other g k hk _ _ _)
        clear hst4
        generalize X8.setCells g 0 (bt x) = Y at *
        go_wp2_with fail
        obtain ⟨ty, sz, HTY, hagg, hsize, hld, hsr, hst⟩ := named29
        have hsr := hsr x.d x.hd
        have hl1 := hld g 1 x.d x.hd Y.drew (range_d HR5.out)
        have h17 : Y.cell? ⟨g, 17, none⟩ = some (.bool x.l) := cell_at HR5.out 17 _ (bt_l x)
        have hs2 := hst w.heap.size 0 x.d x.hd Y.drew (there16 HE5.out rfl)
        have hs17 : (Y.drew.setCells w.heap.size 0 (x.d.map U)).cell? ⟨g, 17, none⟩ = some (.bool x.l) := (World.cell?_of_block (heap_setCells_other w.heap.size g (Ne.symm HM.out.ne) _ _ _)).trans h17
        clear hld hst
        rw [HTY.out.1, HTY.out.2]
        go_region
        all_goals
          have HRR : Hid ((Y.drew.setCells w.heap.size 0 (x.d.map U)).rangeAt w.heap.size 0 (x.d.map U)) := Lib.hid (World.rangeAt_setCells_same _ _ _ _ (fun i hi => (there16 (w := Y.drew) HE5.out rfl) i (by simpa [x.hd] using hi)))
          have HZ6 := Lib.hid (setCells_rest w.heap.size (x.d.map U) 0 Y.drew)
          have hfin := aside (W3 := w) (grown_refl _ _) HP.out HM.out.turn HM.out.pool (W5 := Y.drew.setCells w.heap.size 0 (x.d.map U)) (HZ6.out.1.trans HZ5.out.1) (HZ6.out.2.1.trans HZ5.out.2.1) (HZ6.out.2.2.1.trans HZ5.out.2.2.1) (by have h1 := HZ5.out.2.2.2; have h2 := HZ6.out.2.2.2; rw [h2]; show _ ≤ Y.heap.size; omega) (fun k hk hk2 => (heap_setCells_other _ k (by rcases hk2 with h | h; omega; exact fun e => HM.out.vr (e ▸ h)) _ _ _).trans (HO5.out k (by rcases hk2 with h | h; (have := HM.out.ge; omega); exact fun e => HM.out.vg (e ▸ h))))
          clear hl1 h17 hs2 hs17
          go_wp2_with fail
          exact ret_row3 rfl _ x.d x.hd _ _ w.heap.size _ _ (by rfl) (by rfl) (by rfl) HRR.out ⟨rfl, v', hfin.1, hfin.2⟩
end
end Go.Proofs.YtoifeinkaaclmaaDoor.bk
