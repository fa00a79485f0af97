/-
  What the document's New answers, and the cache that it makes: contracts. Condition: none but what each theorem names.
-/
import Derived.Test.YtjbapfjeildfoaaDoorF3
namespace Go.Proofs.YtjbapfjeildfoaaDoor.kk
open Go Go.ChangeShapes Go.WideShapes Go.ChangeAt Go.RowKit Go.Shelf
set_option linter.unusedVariables false

theorem made {P : Program} (t e : TypeId) (i : TypeInfo) (z : Value) (n size : Nat) (ht : P.underlying t = some (.slice e)) (hi : P.info? e = some i) (hz : i.zero = some z) (h1 : i.size = size) (hc : z.cells.size = size) (h0 : 0 < size)
    (hb : (i.bytes : Int) * (n : Int) ≤ 281474976710656) (h63 : (n : Int) ≤ 9223372036854775807) :
    ∃ cs : Array Value, cs.size = n * size ∧ (∀ (j k : Nat) v, j < n → z.cells[k]? = some v → cs[j * size + k]? = some v) ∧ ∀ w : World, (Instr.makeSlice t (.int .i64 (n : Int)) (.int .i64 (n : Int))).run P w = .ok (.slice (some ⟨w.heap.size, 0, none⟩) n n) (w.alloc (.cells cs e)) := by
  refine ⟨madeCells z.cells (n * size), by rw [size_madeCells], fun j k v hj hk => ?_, fun w => ?_⟩
  · have hks : k < size := by have := (Array.getElem?_eq_some_iff.1 hk).1; omega
    have hjk : j * size + k < n * size := by
      have : (j + 1) * size ≤ n * size := Nat.mul_le_mul_right _ hj
      rw [Nat.add_mul, Nat.one_mul] at this
      omega
    unfold madeCells
    rw [Array.getElem?_map, Array.getElem?_range, if_pos hjk]
    simp only [Option.map_some, hc]
    rw [Nat.mul_comm j size, Nat.mul_add_mod, Nat.mod_eq_of_lt hks, getElem!_def, hk]
  · have hrun := run_make (P := P) w t e i z ht hi hz .i64 .i64 n n (by omega) (Int.le_refl _) hb h63
    rw [Int.toNat_natCast, h1] at hrun
    exact hrun
theorem info5 : (Tryd.prog.info? 5).map (fun i => (i.zero, i.size, i.bytes)) = some (some (.int .u8 0), 1, 1) := by kernel_rfl
theorem empty_at {c : Cfg} {i : Nat} {p : St} (h : (empty c)[i]? = some p) : p = (List.replicate c.wa.toNat zl, 0) ∧ i < c.se.toNat := by
  unfold empty at h
  rw [List.getElem?_replicate] at h
  split at h
  · rename_i hlt; cases h; exact ⟨rfl, hlt⟩
  · cases h
theorem empty_row (c : Cfg) : (∀ (j : Nat) l, (rowAll (empty c))[j]? = some l → l = zl) ∧ (rowAll (empty c)).length = c.se.toNat * c.wa.toNat := by
  have hw : ∀ p ∈ empty c, p.1.length = c.wa.toNat := fun p hp => by
    obtain ⟨i, hi⟩ := List.getElem?_of_mem hp
    rw [(empty_at hi).1]; simp
  refine ⟨fun j l hl => ?_, by rw [rowAll_len hw]; simp [empty]⟩
  obtain ⟨s, k, p, _, _, hp, hk⟩ := rowAll_at hw hl
  rw [(empty_at hp).1] at hk
  rw [List.getElem?_replicate] at hk
  split at hk <;> first | (cases hk; rfl) | cases hk
set_option maxHeartbeats 1000000 in
theorem rnew_no (c : Cfg) (w : World) (h : ¬ c.may) : Calls Tryd.prog 21 #[.agg c.cells] w fun e w' => e = .returned (.tuple #[.pointer none, .int .i64 2]) ∧ w.grownBy w' none := by
  have HG0 : Hid (w.grownBy (w.alloc (.cells c.cells 27)) none) := Lib.hid (grown_alloc (grown_refl _ _) _)
  have HM := Lib.hid (rmay_any c (w.alloc (.cells c.cells 27)))
  obtain ⟨c0, c1, c2, c3, c4, c5, c6, c7⟩ := cfg_at w c
  rw [decide_eq_false h] at HM
  clear h
  unfold Cfg.cells at *
  go_enter Tryd.func21, Tryd.ntmps21
  go_wp2_with (go_at_call 37; ((with_reducible refine HM.out.mono ?_); rintro e w1 ⟨rfl, hg1⟩; have HG1 := Lib.hid hg1; clear hg1))
  go_ret2
  exact ⟨rfl, grown_trans HG0.out HG1.out⟩
/-- What New makes. -/
theorem rnew_rac (c : Cfg) (hm : c.may) (w' : World) (B gl gm : Nat) (cs ds : Array Value) (hs : (∀ (j k : Nat) v, j < c.se.toNat * c.wa.toNat → (la zl)[k]? = some v → cs[j * 18 + k]? = some v)) (hd : ∀ (j k : Nat) v, j < c.se.toNat → (#[.int .u8 0] : Array Value)[k]? = some v → ds[j * 1 + k]? = some v)
    (h1 : w'.heap[gl]? = some (.cells cs 36 (0, 0))) (h2 : w'.heap[gm]? = some (.cells ds 5 (0, 0))) (h3 : w'.heap[B]? = some (.cells (c.cells ++ #[.slice (some ⟨gl, 0, none⟩) (c.se.toNat * c.wa.toNat) (c.se.toNat * c.wa.toNat), .slice (some ⟨gm, 0, none⟩) c.se.toNat c.se.toNat]) 83 (0, 0))) :
    Rac w' ⟨B, gl, gm⟩ c (empty c) := by
  obtain ⟨he, hl⟩ := empty_row c
  have hel : (empty c).length = c.se.toNat := by simp [empty]
  refine ⟨by rw [hl, hel]; exact h3, ⟨⟨_, h1⟩, fun j l hj i v hv => ?_⟩, ⟨_, h2⟩, fun i p hp => ?_, by rw [hel]; have := hm.sets; omega, fun p hp => ?_, fun p hp => ?_, hm⟩
  · have hjl := (List.getElem?_eq_some_iff.1 hj).1
    rw [he j l hj] at hv
    exact (cell_of_row _ _ _ _ _ _ h1).trans (hs j i v (by omega) (by simpa [la] using hv))
  · obtain ⟨rfl, hlt⟩ := empty_at hp
    have := hd i 0 _ hlt rfl
    rw [Nat.mul_one, Nat.add_zero] at this
    exact (cell_of_row _ _ _ _ _ _ h2).trans this
  · obtain ⟨i, hi⟩ := List.getElem?_of_mem hp
    rw [(empty_at hi).1]; simp
  · obtain ⟨i, hi⟩ := List.getElem?_of_mem hp
    rw [(empty_at hi).1]; show 0 < 256; omega
set_option maxRecDepth 100000 in
set_option maxHeartbeats 4000000 in
theorem rnew_ok (c : Cfg) (w : World) (hm : c.may) : Calls Tryd.prog 21 #[.agg c.cells] w fun e w' => ∃ R : RLoc, e = .returned (.tuple #[.pointer (some ⟨R.b, 0, none⟩), .int .i64 0]) ∧ Rac w' R c (empty c) ∧ w.grownBy w' none ∧ ∀ k, R.any k → w.heap.size ≤ k := by
  have HG0 : Hid (w.grownBy (w.alloc (.cells c.cells 27)) none) := Lib.hid (grown_alloc (grown_refl _ _) _)
  have HM := Lib.hid (rmay_any c (w.alloc (.cells c.cells 27)))
  have HA := Lib.hid (cfg_at w c)
  rw [decide_eq_true hm] at HM
  obtain ⟨c0, c1, c2, c3, c4, c5, c6, c7⟩ := cfg_at w c
  have hse := hm.sets
  have hwa := hm.ways
  obtain ⟨S, hS⟩ : ∃ S, S = c.se.toNat := ⟨_, rfl⟩
  obtain ⟨V, hV⟩ : ∃ V, V = c.wa.toNat := ⟨_, rfl⟩
  have eS : c.se = (S : Int) := by omega
  have eV : c.wa = (V : Int) := by omega
  obtain ⟨n, hn⟩ : ∃ n, n = S * V := ⟨_, rfl⟩
  have hn64 : n ≤ 64 := by rw [hn]; exact Nat.mul_le_mul (show S ≤ 16 by omega) (show V ≤ 4 by omega)
  have hmul : IntKind.i64.wrap ((S : Int) * (V : Int)) = (n : Int) := by
    rw [hn, ← Int.natCast_mul]; exact IntWalk.i64_in _ (by rw [← hn]; omega)
  obtain ⟨i36, hi36, z36, s36, y36⟩ := info_parts info36z
  obtain ⟨i5, hi5, z5, s5, y5⟩ := info_parts info5
  obtain ⟨cs, hcs, hcz, hmk⟩ := made (P := Tryd.prog) 53 36 i36 (.agg (la zl)) n 18 Tryd.underlying53 hi36 z36 s36 (by rfl) (by omega) (by rw [y36]; omega) (by omega)
  obtain ⟨ds, hds, hdz, hmk2⟩ := made (P := Tryd.prog) 81 5 i5 (.int .u8 0) S 1 Tryd.underlying81 hi5 z5 s5 (by rfl) (by omega) (by rw [y5]; omega) (by omega)
  have HFIN : Hid (∀ (w' : World) (B gl gm : Nat), w'.heap[gl]? = some (.cells cs 36 (0, 0)) → w'.heap[gm]? = some (.cells ds 5 (0, 0)) → w'.heap[B]? = some (.cells (c.cells ++ #[.slice (some ⟨gl, 0, none⟩) n n, .slice (some ⟨gm, 0, none⟩) S S]) 83 (0, 0)) → Rac w' ⟨B, gl, gm⟩ c (empty c)) := Lib.hid fun w' B gl gm h1 h2 h3 => rnew_rac c hm w' B gl gm cs ds (by rw [← hS, ← hV, ← hn]; exact hcz) (by rw [← hS]; exact hdz) h1 h2 (by rw [← hS, ← hV, ← hn]; exact h3)
  have HES := Lib.hid eS
  have HEV := Lib.hid eV
  rw [eS] at c1
  rw [eV] at c2
  clear hm hse hwa hS hV eS eV hn hi36 z36 s36 y36 hi5 z5 s5 y5 hcs hds hcz hdz hn64
  unfold Cfg.cells at *
  rw [HES.out, HEV.out] at HM HG0 ⊢
  rw [HES.out, HEV.out] at c0 c1 c2 c3 c4 c5 c6 c7 HA
  go_enter Tryd.func21, Tryd.ntmps21
  go_wp2_with (go_at_call 37; ((with_reducible refine HM.out.mono ?_); rintro e w1 ⟨rfl, hg1⟩; have HG1 := Lib.hid hg1; have HA1 := Lib.hid (HA.out.grown hg1); clear hg1 c0 c1 c2 c3 c4 c5 c6 c7))
  have HCC : Hid (∀ w', w1.grownBy w' none → w'.cell? ⟨w.heap.size, 0, none⟩ = some (.int .i64 c.co) ∧ w'.cell? ⟨w.heap.size, 1, none⟩ = some (.int .i64 (S : Int)) ∧ w'.cell? ⟨w.heap.size, 2, none⟩ = some (.int .i64 (V : Int)) ∧ w'.cell? ⟨w.heap.size, 3, none⟩ = some (.int .i64 c.bl) ∧ w'.cell? ⟨w.heap.size, 4, none⟩ = some (.int .i64 c.lo) ∧ w'.cell? ⟨w.heap.size, 5, none⟩ = some (.int .i64 c.ba) ∧ w'.cell? ⟨w.heap.size, 6, none⟩ = some (.int .i64 c.ne) ∧ w'.cell? ⟨w.heap.size, 7, none⟩ = some (.int .i64 c.tr)) := Lib.hid fun w' h => by
    obtain ⟨d0, d1, d2, d3, d4, d5, d6, d7⟩ := HA1.out.grown h
    rw [HES.out] at d1
    rw [HEV.out] at d2
    exact ⟨d0, d1, d2, d3, d4, d5, d6, d7⟩
  have HL1 : Hid (w.heap.size < w1.heap.size) := Lib.hid (by have := HG1.out.size; simp at this; omega)
  refine wp_region_held_drew (S := fun w' => w'.cell? ⟨w.heap.size, 0, none⟩ = some (.int .i64 c.co) ∧ w'.cell? ⟨w.heap.size, 1, none⟩ = some (.int .i64 (S : Int)) ∧ w'.cell? ⟨w.heap.size, 2, none⟩ = some (.int .i64 (V : Int)) ∧ w'.cell? ⟨w.heap.size, 3, none⟩ = some (.int .i64 c.bl) ∧ w'.cell? ⟨w.heap.size, 4, none⟩ = some (.int .i64 c.lo) ∧ w'.cell? ⟨w.heap.size, 5, none⟩ = some (.int .i64 c.ba) ∧ w'.cell? ⟨w.heap.size, 6, none⟩ = some (.int .i64 c.ne) ∧ w'.cell? ⟨w.heap.size, 7, none⟩ = some (.int .i64 c.tr)) (by kernel_rfl) (HCC.out _ (grown_drew (grown_refl _ _))) (fun hHeld => ?_)
  generalize hwy : w1.drew = wy at hHeld ⊢
  have HGY : Hid (w1.grownBy wy none) := Lib.hid (hwy ▸ grown_drew (grown_refl _ _))
  clear hwy
  refine wpAnyH_take (i := 0) (oi := ⟨some 7, Op.load 27 (Operand.tmp 1), _, _, _, _⟩) (v := ?v1) rfl (by kernel_rfl) (by kernel_rfl) (by kernel_rfl) (fun _ _ _ h => h) (Or.inl ⟨by rfl, ?hy1⟩) (by assumption) ?rest1
  case hy1 => ((intro w0 hSw; obtain ⟨hs0, hs1, hs2, hs3, hs4, hs5, hs6, hs7⟩ := hSw; go_simp); try (with_reducible rfl))
  try simp only [Act.put, List.setIfInBounds_toArray, List.set_cons_zero, List.set_cons_succ]
  refine wpAnyH_take (i := 1) (oi := ⟨some 8, Op.fieldAddr 27 (Operand.tmp 1) 1, _, _, _, _⟩) (v := ?v2) rfl (by kernel_rfl) (by kernel_rfl) (by kernel_rfl) (fun _ _ _ h => h) (Or.inl ⟨by rfl, ?hy2⟩) (by assumption) ?rest2
  case hy2 => ((intro w0 hSw; obtain ⟨hs0, hs1, hs2, hs3, hs4, hs5, hs6, hs7⟩ := hSw; go_simp); try (with_reducible rfl))
  try simp only [Act.put, List.setIfInBounds_toArray, List.set_cons_zero, List.set_cons_succ]
  refine wpAnyH_take (i := 2) (oi := ⟨some 9, Op.load 3 (Operand.tmp 8), _, _, _, _⟩) (v := ?v3) rfl (by kernel_rfl) (by kernel_rfl) (by kernel_rfl) (fun _ _ _ h => h) (Or.inl ⟨by rfl, ?hy3⟩) (by assumption) ?rest3
  case hy3 => ((intro w0 hSw; obtain ⟨hs0, hs1, hs2, hs3, hs4, hs5, hs6, hs7⟩ := hSw; go_simp); try (with_reducible rfl))
  try simp only [Act.put, List.setIfInBounds_toArray, List.set_cons_zero, List.set_cons_succ]
  refine wpAnyH_take (i := 3) (oi := ⟨some 10, Op.fieldAddr 27 (Operand.tmp 1) 2, _, _, _, _⟩) (v := ?v4) rfl (by kernel_rfl) (by kernel_rfl) (by kernel_rfl) (fun _ _ _ h => h) (Or.inl ⟨by rfl, ?hy4⟩) (by assumption) ?rest4
  case hy4 => ((intro w0 hSw; obtain ⟨hs0, hs1, hs2, hs3, hs4, hs5, hs6, hs7⟩ := hSw; go_simp); try (with_reducible rfl))
  try simp only [Act.put, List.setIfInBounds_toArray, List.set_cons_zero, List.set_cons_succ]
  refine wpAnyH_take (i := 4) (oi := ⟨some 11, Op.load 3 (Operand.tmp 10), _, _, _, _⟩) (v := ?v5) rfl (by kernel_rfl) (by kernel_rfl) (by kernel_rfl) (fun _ _ _ h => h) (Or.inl ⟨by rfl, ?hy5⟩) (by assumption) ?rest5
  case hy5 => ((intro w0 hSw; obtain ⟨hs0, hs1, hs2, hs3, hs4, hs5, hs6, hs7⟩ := hSw; go_simp); try (with_reducible rfl))
  try simp only [Act.put, List.setIfInBounds_toArray, List.set_cons_zero, List.set_cons_succ]
  refine wpAnyH_take (i := 5) (oi := ⟨some 12, Op.binOp BinOp.mul 3 (Operand.tmp 9) (Operand.tmp 11) 3, _, _, _, _⟩) (v := ?v6) rfl (by kernel_rfl) (by kernel_rfl) (by kernel_rfl) (fun _ _ _ h => h) (Or.inl ⟨by rfl, ?hy6⟩) (by assumption) ?rest6
  case hy6 => ((intro w0 hSw; obtain ⟨hs0, hs1, hs2, hs3, hs4, hs5, hs6, hs7⟩ := hSw; go_simp); try (with_reducible rfl))
  try simp only [Act.put, List.setIfInBounds_toArray, List.set_cons_zero, List.set_cons_succ]
  refine wpAnyH_take (i := 7) (oi := ⟨some 14, Op.fieldAddr 27 (Operand.tmp 1) 1, _, _, _, _⟩) (v := ?v7) rfl (by kernel_rfl) (by kernel_rfl) (by kernel_rfl) (fun _ _ _ h => h) (Or.inl ⟨by rfl, ?hy7⟩) (by assumption) ?rest7
  case hy7 => ((intro w0 hSw; obtain ⟨hs0, hs1, hs2, hs3, hs4, hs5, hs6, hs7⟩ := hSw; go_simp); try (with_reducible rfl))
  try simp only [Act.put, List.setIfInBounds_toArray, List.set_cons_zero, List.set_cons_succ]
  refine wpAnyH_take (i := 8) (oi := ⟨some 15, Op.load 3 (Operand.tmp 14), _, _, _, _⟩) (v := ?v8) rfl (by kernel_rfl) (by kernel_rfl) (by kernel_rfl) (fun _ _ _ h => h) (Or.inl ⟨by rfl, ?hy8⟩) (by assumption) ?rest8
  case hy8 => ((intro w0 hSw; obtain ⟨hs0, hs1, hs2, hs3, hs4, hs5, hs6, hs7⟩ := hSw; go_simp); try (with_reducible rfl))
  try simp only [Act.put, List.setIfInBounds_toArray, List.set_cons_zero, List.set_cons_succ]
  refine wpAnyH_ready (rs := [6, 9]) (by kernel_rfl) (by simp) ?_
  refine AllReadyH.cons (o := ⟨some 13, Op.makeSlice 53 (Operand.tmp 12) (Operand.tmp 12), _, _, _, _⟩) rfl (fun K hK => ?_) (AllReadyH.cons (o := ⟨some 16, Op.makeSlice 81 (Operand.tmp 15) (Operand.tmp 15), _, _, _, _⟩) rfl (fun K hK => ?_) AllReadyH.nil)
  · skip
    have hrun := hmk wy
    go_simp
    refine hK.out _ _ (HCC.out _ (grown_alloc HGY.out _)) (fun hHeld => ?_)
    clear hK K hrun
    try simp only [Act.put, List.setIfInBounds_toArray, List.set_cons_zero, List.set_cons_succ]
    refine wpAnyH_ready (rs := [9]) (by kernel_rfl) (by simp) ?_
    refine AllReadyH.cons (o := ⟨some 16, Op.makeSlice 81 (Operand.tmp 15) (Operand.tmp 15), _, _, _, _⟩) rfl (fun K hK => ?_) AllReadyH.nil
    have hrun := hmk2 (wy.alloc (.cells cs 36))
    go_simp
    refine hK.out _ _ (HCC.out _ (grown_alloc (grown_alloc HGY.out _) _)) (fun hHeld => ?_)
    clear hK K hrun
    try simp only [Act.put, List.setIfInBounds_toArray, List.set_cons_zero, List.set_cons_succ]
    refine wpAnyH_take (i := 10) (oi := ⟨some 17, Op.build 83 #[(0, (Operand.tmp 7)), (1, (Operand.tmp 13)), (2, (Operand.tmp 16))], _, _, _, _⟩) (v := ?v9) rfl (by kernel_rfl) (by kernel_rfl) (by kernel_rfl) (fun _ _ _ h => h) (Or.inl ⟨by rfl, ?hy9⟩) (by assumption) ?rest9
    case hy9 => ((intro w0 hSw; go_simp); try (with_reducible rfl))
    try simp only [Act.put, List.setIfInBounds_toArray, List.set_cons_zero, List.set_cons_succ]
    refine wpAnyH_ready (rs := [11]) (by kernel_rfl) (by simp) ?_
    refine AllReadyH.cons (o := ⟨some 18, Op.box 83 (Operand.tmp 17), _, _, _, _⟩) rfl (fun K hK => ?_) AllReadyH.nil
    go_simp
    refine hK.out _ _ (HCC.out _ (grown_alloc (grown_alloc (grown_alloc HGY.out _) _) _)) (fun hHeld => ?_)
    clear hK K
    try simp only [Act.put, List.setIfInBounds_toArray, List.set_cons_zero, List.set_cons_succ]
    refine wpAnyH_take (i := 12) (oi := ⟨some 2, Op.assign (Operand.tmp 18), _, _, _, _⟩) (v := ?v10) rfl (by kernel_rfl) (by kernel_rfl) (by kernel_rfl) (fun _ _ _ h => h) (Or.inl ⟨by rfl, ?hy10⟩) (by assumption) ?rest10
    case hy10 => ((intro w0 hSw; go_simp); try (with_reducible rfl))
    try simp only [Act.put, List.setIfInBounds_toArray, List.set_cons_zero, List.set_cons_succ]
    refine wpAnyH_take (i := 13) (oi := ⟨some 3, Op.assign (Operand.const (Value.int IntKind.i64 0)), _, _, _, _⟩) (v := ?v11) rfl (by kernel_rfl) (by kernel_rfl) (by kernel_rfl) (fun _ _ _ h => h) (Or.inl ⟨by rfl, ?hy11⟩) (by assumption) ?rest11
    case hy11 => ((intro w0 hSw; go_simp); try (with_reducible rfl))
    try simp only [Act.put, List.setIfInBounds_toArray, List.set_cons_zero, List.set_cons_succ]
    refine wpAnyH_done (by kernel_rfl) ?_ _
    go_wp2_with fail
    go_ret2
    have h1 := HGY.out.size
    have h2 := HL1.out
    refine ⟨⟨wy.heap.size + 1 + 1, wy.heap.size, wy.heap.size + 1⟩, rfl, HFIN.out _ _ _ _ ((Below.heap_alloc _ _ _ (by simp; omega)).trans ((Below.heap_alloc _ _ _ (by simp)).trans (heap_alloc_new wy (.cells cs 36)))) ((Below.heap_alloc _ _ _ (by simp)).trans (by have := heap_alloc_new (wy.alloc (.cells cs 36)) (.cells ds 5); rw [World.size_alloc] at this; exact this)) ?_, grown_trans HG0.out (grown_trans HG1.out (grown_alloc (grown_alloc (grown_alloc HGY.out _) _) _)), fun k hk => ?_⟩
    · have := heap_alloc_new ((wy.alloc (.cells cs 36)).alloc (.cells ds 5)) (.cells #[.int .i64 c.co, .int .i64 (S : Int), .int .i64 (V : Int), .int .i64 c.bl, .int .i64 c.lo, .int .i64 c.ba, .int .i64 c.ne, .int .i64 c.tr, .slice (some ⟨wy.heap.size, 0, none⟩) n n, .slice (some ⟨wy.heap.size + 1, 0, none⟩) S S] 83)
      rw [World.size_alloc, World.size_alloc] at this
      rw [HES.out, HEV.out]
      exact this
    · rcases hk with e | e | e <;> (have e2 : k = _ := e; simp at e2; omega)
  · skip
    have hrun := hmk2 wy
    go_simp
    refine hK.out _ _ (HCC.out _ (grown_alloc HGY.out _)) (fun hHeld => ?_)
    clear hK K hrun
    try simp only [Act.put, List.setIfInBounds_toArray, List.set_cons_zero, List.set_cons_succ]
    refine wpAnyH_ready (rs := [6]) (by kernel_rfl) (by simp) ?_
    refine AllReadyH.cons (o := ⟨some 13, Op.makeSlice 53 (Operand.tmp 12) (Operand.tmp 12), _, _, _, _⟩) rfl (fun K hK => ?_) AllReadyH.nil
    have hrun := hmk (wy.alloc (.cells ds 5))
    go_simp
    refine hK.out _ _ (HCC.out _ (grown_alloc (grown_alloc HGY.out _) _)) (fun hHeld => ?_)
    clear hK K hrun
    try simp only [Act.put, List.setIfInBounds_toArray, List.set_cons_zero, List.set_cons_succ]
    refine wpAnyH_take (i := 10) (oi := ⟨some 17, Op.build 83 #[(0, (Operand.tmp 7)), (1, (Operand.tmp 13)), (2, (Operand.tmp 16))], _, _, _, _⟩) (v := ?v12) rfl (by kernel_rfl) (by kernel_rfl) (by kernel_rfl) (fun _ _ _ h => h) (Or.inl ⟨by rfl, ?hy12⟩) (by assumption) ?rest12
    case hy12 => ((intro w0 hSw; go_simp); try (with_reducible rfl))
    try simp only [Act.put, List.setIfInBounds_toArray, List.set_cons_zero, List.set_cons_succ]
    refine wpAnyH_ready (rs := [11]) (by kernel_rfl) (by simp) ?_
    refine AllReadyH.cons (o := ⟨some 18, Op.box 83 (Operand.tmp 17), _, _, _, _⟩) rfl (fun K hK => ?_) AllReadyH.nil
    go_simp
    refine hK.out _ _ (HCC.out _ (grown_alloc (grown_alloc (grown_alloc HGY.out _) _) _)) (fun hHeld => ?_)
    clear hK K
    try simp only [Act.put, List.setIfInBounds_toArray, List.set_cons_zero, List.set_cons_succ]
    refine wpAnyH_take (i := 12) (oi := ⟨some 2, Op.assign (Operand.tmp 18), _, _, _, _⟩) (v := ?v13) rfl (by kernel_rfl) (by kernel_rfl) (by kernel_rfl) (fun _ _ _ h => h) (Or.inl ⟨by rfl, ?hy13⟩) (by assumption) ?rest13
    case hy13 => ((intro w0 hSw; go_simp); try (with_reducible rfl))
    try simp only [Act.put, List.setIfInBounds_toArray, List.set_cons_zero, List.set_cons_succ]
    refine wpAnyH_take (i := 13) (oi := ⟨some 3, Op.assign (Operand.const (Value.int IntKind.i64 0)), _, _, _, _⟩) (v := ?v14) rfl (by kernel_rfl) (by kernel_rfl) (by kernel_rfl) (fun _ _ _ h => h) (Or.inl ⟨by rfl, ?hy14⟩) (by assumption) ?rest14
    case hy14 => ((intro w0 hSw; go_simp); try (with_reducible rfl))
    try simp only [Act.put, List.setIfInBounds_toArray, List.set_cons_zero, List.set_cons_succ]
    refine wpAnyH_done (by kernel_rfl) ?_ _
    go_wp2_with fail
    go_ret2
    have h1 := HGY.out.size
    have h2 := HL1.out
    refine ⟨⟨wy.heap.size + 1 + 1, wy.heap.size + 1, wy.heap.size⟩, rfl, HFIN.out _ _ _ _ ((Below.heap_alloc _ _ _ (by simp)).trans (by have := heap_alloc_new (wy.alloc (.cells ds 5)) (.cells cs 36); rw [World.size_alloc] at this; exact this)) ((Below.heap_alloc _ _ _ (by simp; omega)).trans ((Below.heap_alloc _ _ _ (by simp)).trans (heap_alloc_new wy (.cells ds 5)))) ?_, grown_trans HG0.out (grown_trans HG1.out (grown_alloc (grown_alloc (grown_alloc HGY.out _) _) _)), fun k hk => ?_⟩
    · have := heap_alloc_new ((wy.alloc (.cells ds 5)).alloc (.cells cs 36)) (.cells #[.int .i64 c.co, .int .i64 (S : Int), .int .i64 (V : Int), .int .i64 c.bl, .int .i64 c.lo, .int .i64 c.ba, .int .i64 c.ne, .int .i64 c.tr, .slice (some ⟨wy.heap.size + 1, 0, none⟩) n n, .slice (some ⟨wy.heap.size, 0, none⟩) S S] 83)
      rw [World.size_alloc, World.size_alloc] at this
      rw [HES.out, HEV.out]
      exact this
    · rcases hk with e | e | e <;> (have e2 : k = _ := e; simp at e2; omega)
end Go.Proofs.YtjbapfjeildfoaaDoor.kk
