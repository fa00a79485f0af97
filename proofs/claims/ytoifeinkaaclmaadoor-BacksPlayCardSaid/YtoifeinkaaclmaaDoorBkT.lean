/-
  What the document's own Backs answer to New and Put, and what is there behind them: contracts. No condition but what each theorem names.
-/
import Derived.Test.YtoifeinkaaclmaaDoorBkS
namespace Go.Proofs.YtoifeinkaaclmaaDoor.bk
open Go Go.ChangeShapes Go.WideShapes Go.ChangeAt Go.RowKit
open Go.Proofs.YtoifeinkaaclmaaDoor.tt (Cfg Tab CfgAt cfg_at rdata_any U zd row tyne add_lit lt_of range_grown heap_setCells_other setCells_rest grown_setCells grown_setRow grown_new grown_drewN below_of grown_alloc grown_refl grown_trans grown_drew Sl Pool Turn Next flat flat_len flat_at heap_setCells)
set_option linter.unusedVariables false
set_option linter.unusedSimpArgs false
set_option maxRecDepth 1000000

theorem made {P : Program} (t e : TypeId) (i : TypeInfo) (z : Value) (n size : Nat) (ht : P.underlying t = some (.slice e)) (hi : P.info? e = some i) (hz : i.zero = some z) (h1 : i.size = size) (hc : z.cells.size = size) (h0 : 0 < size)
    (hb : (i.bytes : Int) * (n : Int) ≤ 281474976710656) (h63 : (n : Int) ≤ 9223372036854775807) :
    ∃ cs : Array Value, cs.size = n * size ∧ (∀ (j k : Nat) v, j < n → z.cells[k]? = some v → cs[j * size + k]? = some v) ∧ ∀ w : World, (Instr.makeSlice t (.int .i64 (n : Int)) (.int .i64 (n : Int))).run P w = .ok (.slice (some ⟨w.heap.size, 0, none⟩) n n) (w.alloc (.cells cs e)) := by
  refine ⟨madeCells z.cells (n * size), by rw [size_madeCells], fun j k v hj hk => ?_, fun w => ?_⟩
  · have hks : k < size := by have := (Array.getElem?_eq_some_iff.1 hk).1; omega
    have hjk : j * size + k < n * size := by
      have : (j + 1) * size ≤ n * size := Nat.mul_le_mul_right _ hj
      rw [Nat.add_mul, Nat.one_mul] at this
      omega
    unfold madeCells
    rw [Array.getElem?_map, Array.getElem?_range, if_pos hjk]
    simp only [Option.map_some, hc]
    rw [Nat.mul_comm j size, Nat.mul_add_mod, Nat.mod_eq_of_lt hks, getElem!_def, hk]
  · have hrun := run_make (P := P) w t e i z ht hi hz .i64 .i64 n n (by omega) (Int.le_refl _) hb h63
    rw [Int.toNat_natCast, h1] at hrun
    exact hrun

theorem infoK : (Tryd.prog.info? 72).map (fun i => (i.zero, i.size, i.bytes)) = some (some (.agg (ra (rof none))), 18, 68) := by kernel_rfl
theorem buildR (d : List Int) (hd : d.length = 16) : Array.foldl (fun (cs : Array Value) (x : Value × Nat) => cs.setIfInBounds (2 + x.snd) x.fst) #[.bool true, .bool true, .int .u32 0, .int .u32 0, .int .u32 0, .int .u32 0, .int .u32 0, .int .u32 0, .int .u32 0, .int .u32 0, .int .u32 0, .int .u32 0, .int .u32 0, .int .u32 0, .int .u32 0, .int .u32 0, .int .u32 0, .int .u32 0] (row d).zipIdx 0 16 = ra ⟨true, true, d, hd⟩ := by
  match d, hd with
  | [d0, d1, d2, d3, d4, d5, d6, d7, d8, d9, d10, d11, d12, d13, d14, d15], _ => simp [row, ra, rt]
/-- A new table. -/
theorem new_row (w : World) (g N : Nat) (hN : N ≤ 256) (cs : Array Value) (hs : cs.size = N * 18) (hc : ∀ (j k : Nat) v, j < N → (ra (rof none))[k]? = some v → cs[j * 18 + k]? = some v) (h : w.heap[g]? = some (.cells cs 72 (0, 0))) :
    Sl w 72 18 (.slice (some ⟨g, 0, none⟩) N N) (tab N []).length (flat rt (tab N [])) := by
  refine .inr ⟨g, 0, N, cs, by rw [tab_len], h, by rw [flat_len rt_len], by rw [tab_len]; exact Nat.le_refl _, by unfold maxLen; omega, by omega, fun k y hk => ?_⟩
  have hk' : k < (tab N []).length * 18 := by rw [← flat_len rt_len]; exact (List.getElem?_eq_some_iff.1 hk).1
  rw [tab_len] at hk'
  have hd : k / 18 < N := by omega
  have hm : k % 18 < 18 := Nat.mod_lt _ (by decide)
  have hkk : k / 18 * 18 + k % 18 = k := Nat.div_add_mod' k 18
  obtain ⟨u, hu⟩ : ∃ u, (rt (rof (look [] ((k / 18 : Nat) : Int))))[k % 18]? = some u := ⟨_, List.getElem?_eq_getElem (by rw [rt_len]; exact hm)⟩
  have h1 := flat_at rt_len (tab N []) _ _ _ u (tab_get [] hd) hu
  rw [hkk, hk] at h1
  cases h1
  have hu' : (rt (rof none))[k % 18]? = some y := hu
  have h2 := hc (k / 18) (k % 18) y hd (by simpa [ra] using hu')
  rw [hkk] at h2
  rw [Nat.zero_add]; exact h2
set_option maxHeartbeats 2000000 in
theorem rnew_any (c : Cfg) (N m : Nat) (w : World) (hm : c.may) (hN : c.data = (N : Int)) (hN1 : N ≤ 256) (hba : c.ba = (m : Int)) : Calls Tryd.prog 19 #[.agg c.cells] w fun e w' => ∃ r g, e = .returned (.pointer (some ⟨r, 0, none⟩)) ∧ RAt w' r g N m [] ∧ w.grownBy w' none ∧ w.heap.size ≤ r ∧ w.heap.size ≤ g := by
  obtain ⟨ik, hik, zk, sk, yk⟩ := info_parts infoK
  obtain ⟨cs, hcs, hcz, hmk⟩ := made (P := Tryd.prog) 68 72 ik (.agg (ra (rof none))) N 18 Tryd.underlying68 hik zk sk (by rfl) (by omega) (by rw [yk]; omega) (by omega)
  have HSL : Hid (∀ (w' : World) (g : Nat), w'.heap[g]? = some (.cells cs 72 (0, 0)) → _) := Lib.hid fun w' g h => new_row w' g N hN1 cs hcs hcz h
  have hg0 : w.grownBy (w.alloc (.cells c.cells 27)) none := grown_alloc (grown_refl _ _) _
  have HG0 := Lib.hid hg0
  have HCA := Lib.hid (cfg_at w c)
  have HDA : Hid (∀ w', _) := Lib.hid fun w' => rdata_any c w' hm.fits
  rw [hN] at HDA
  have HBA := Lib.hid hba
  clear hm hN hN1 hba hik zk sk yk hcs hcz hg0
  unfold Cfg.cells at HG0 HCA HDA ⊢
  go_enter Tryd.func19, Tryd.ntmps19
  go_wp2_with fail
  obtain ⟨wb, hwb⟩ : ∃ wb, w.alloc (.cells #[.int .i64 c.co, .int .i64 c.se, .int .i64 c.wa, .int .i64 c.bl, .int .i64 c.lo, .int .i64 c.ba, .int .i64 c.ne, .int .i64 c.tr] 27) = wb := ⟨_, rfl⟩
  rw [hwb] at HG0 HCA ⊢
  clear hwb
  have HCC : Hid (∀ w', wb.grownBy w' none → w'.cell? ⟨w.heap.size, 0, none⟩ = some (.int .i64 c.co) ∧ w'.cell? ⟨w.heap.size, 1, none⟩ = some (.int .i64 c.se) ∧ w'.cell? ⟨w.heap.size, 2, none⟩ = some (.int .i64 c.wa) ∧ w'.cell? ⟨w.heap.size, 3, none⟩ = some (.int .i64 c.bl) ∧ w'.cell? ⟨w.heap.size, 4, none⟩ = some (.int .i64 c.lo) ∧ w'.cell? ⟨w.heap.size, 5, none⟩ = some (.int .i64 c.ba) ∧ w'.cell? ⟨w.heap.size, 6, none⟩ = some (.int .i64 c.ne) ∧ w'.cell? ⟨w.heap.size, 7, none⟩ = some (.int .i64 c.tr)) := Lib.hid fun w' h => by
    obtain ⟨d0, d1, d2, d3, d4, d5, d6, d7⟩ := HCA.out.grown h
    exact ⟨d0, d1, d2, d3, d4, d5, d6, d7⟩
  refine wp_region_held_drew (S := fun w' => w'.cell? ⟨w.heap.size, 0, none⟩ = some (.int .i64 c.co) ∧ w'.cell? ⟨w.heap.size, 1, none⟩ = some (.int .i64 c.se) ∧ w'.cell? ⟨w.heap.size, 2, none⟩ = some (.int .i64 c.wa) ∧ w'.cell? ⟨w.heap.size, 3, none⟩ = some (.int .i64 c.bl) ∧ w'.cell? ⟨w.heap.size, 4, none⟩ = some (.int .i64 c.lo) ∧ w'.cell? ⟨w.heap.size, 5, none⟩ = some (.int .i64 c.ba) ∧ w'.cell? ⟨w.heap.size, 6, none⟩ = some (.int .i64 c.ne) ∧ w'.cell? ⟨w.heap.size, 7, none⟩ = some (.int .i64 c.tr)) (by kernel_rfl) (HCC.out _ (grown_drew (grown_refl _ _))) (fun hHeld => ?_)
  have HY := Lib.hid (grown_drew (grown_refl wb none))
  generalize wb.drew = wy at hHeld HY ⊢
  refine wpAnyH_take (i := 0) (oi := ⟨some 3, Op.load 27 (Operand.tmp 1), _, _, _, _⟩) (v := ?v1) rfl (by kernel_rfl) (by kernel_rfl) (by kernel_rfl) (fun _ _ _ h => h) (Or.inl ⟨by rfl, ?hy1⟩) (by assumption) ?rest1
  case hy1 => ((intro w0 hSw; obtain ⟨hs0, hs1, hs2, hs3, hs4, hs5, hs6, hs7⟩ := hSw; go_simp); try (with_reducible rfl))
  try simp only [Act.put, List.setIfInBounds_toArray, List.set_cons_zero, List.set_cons_succ]
  refine wpAnyH_take (i := 3) (oi := ⟨some 6, Op.fieldAddr 27 (Operand.tmp 1) 5, _, _, _, _⟩) (v := ?v2) rfl (by kernel_rfl) (by kernel_rfl) (by kernel_rfl) (fun _ _ _ h => h) (Or.inl ⟨by rfl, ?hy2⟩) (by assumption) ?rest2
  case hy2 => ((intro w0 hSw; obtain ⟨hs0, hs1, hs2, hs3, hs4, hs5, hs6, hs7⟩ := hSw; go_simp); try (with_reducible rfl))
  try simp only [Act.put, List.setIfInBounds_toArray, List.set_cons_zero, List.set_cons_succ]
  refine wpAnyH_take (i := 4) (oi := ⟨some 7, Op.load 3 (Operand.tmp 6), _, _, _, _⟩) (v := ?v3) rfl (by kernel_rfl) (by kernel_rfl) (by kernel_rfl) (fun _ _ _ h => h) (Or.inl ⟨by rfl, ?hy3⟩) (by assumption) ?rest3
  case hy3 => ((intro w0 hSw; obtain ⟨hs0, hs1, hs2, hs3, hs4, hs5, hs6, hs7⟩ := hSw; go_simp); try (with_reducible rfl))
  try simp only [Act.put, List.setIfInBounds_toArray, List.set_cons_zero, List.set_cons_succ]
  refine wpAnyH_ready (rs := [1]) (by kernel_rfl) (by simp) ?_
  refine AllReadyH.cons (o := ⟨some 4, Op.call { callee := Callee.value (Operand.func 37), args := #[(Operand.tmp 3)], argTypes := #[27] }, _, _, _, _⟩) rfl (fun K hK => ?_) AllReadyH.nil
  go_simp
  (with_reducible refine (HDA.out _).mono ?_); rintro e w3 ⟨rfl, hg3⟩
  have HG3 := Lib.hid (grown_trans HY.out hg3)
  clear hg3
  go_wp2_with fail
  refine hK.out _ _ (HCC.out _ HG3.out) (fun hHeld => ?_)
  clear hK K
  try simp only [Act.put, List.setIfInBounds_toArray, List.set_cons_zero, List.set_cons_succ]
  refine wpAnyH_ready (rs := [2]) (by kernel_rfl) (by simp) ?_
  refine AllReadyH.cons (o := ⟨some 5, Op.makeSlice 68 (Operand.tmp 4) (Operand.tmp 4), _, _, _, _⟩) rfl (fun K hK => ?_) AllReadyH.nil
  have hrun := hmk w3
  go_simp
  refine hK.out _ _ (HCC.out _ (grown_alloc HG3.out _)) (fun hHeld => ?_)
  clear hK K hrun
  try simp only [Act.put, List.setIfInBounds_toArray, List.set_cons_zero, List.set_cons_succ]
  refine wpAnyH_take (i := 5) (oi := ⟨some 8, Op.build 70 #[(0, (Operand.tmp 5)), (1, (Operand.tmp 7))], _, _, _, _⟩) (v := ?v4) rfl (by kernel_rfl) (by kernel_rfl) (by kernel_rfl) (fun _ _ _ h => h) (Or.inl ⟨by rfl, ?hy4⟩) (by assumption) ?rest4
  case hy4 => ((intro w0 hSw; go_simp); try (with_reducible rfl))
  try simp only [Act.put, List.setIfInBounds_toArray, List.set_cons_zero, List.set_cons_succ]
  refine wpAnyH_ready (rs := [6]) (by kernel_rfl) (by simp) ?_
  refine AllReadyH.cons (o := ⟨some 9, Op.box 70 (Operand.tmp 8), _, _, _, _⟩) rfl (fun K hK => ?_) AllReadyH.nil
  go_simp
  refine hK.out _ _ (HCC.out _ (grown_alloc (grown_alloc HG3.out _) _)) (fun hHeld => ?_)
  clear hK K
  try simp only [Act.put, List.setIfInBounds_toArray, List.set_cons_zero, List.set_cons_succ]
  refine wpAnyH_take (i := 7) (oi := ⟨some 2, Op.assign (Operand.tmp 9), _, _, _, _⟩) (v := ?v5) rfl (by kernel_rfl) (by kernel_rfl) (by kernel_rfl) (fun _ _ _ h => h) (Or.inl ⟨by rfl, ?hy5⟩) (by assumption) ?rest5
  case hy5 => ((intro w0 hSw; go_simp); try (with_reducible rfl))
  try simp only [Act.put, List.setIfInBounds_toArray, List.set_cons_zero, List.set_cons_succ]
  refine wpAnyH_done (by kernel_rfl) ?_ _
  go_wp2_with fail
  go_ret
  refine ⟨w3.heap.size + 1, w3.heap.size, rfl, ⟨?_, HSL.out _ _ ((Below.heap_alloc _ _ _ (by simp)).trans (heap_alloc_new _ _))⟩, grown_trans HG0.out (grown_alloc (grown_alloc HG3.out _) _), by have := HG0.out.size; have := HG3.out.size; omega, by have := HG0.out.size; have := HG3.out.size; omega⟩
  have := heap_alloc_new (w3.alloc (.cells cs 72)) (.cells #[.slice (some ⟨w3.heap.size, 0, none⟩) N N, .int .i64 c.ba] 70)
  rw [World.size_alloc] at this
  rw [← HBA.out]; exact this
section
variable {w : World} {r g N m : Nat} {ns : List Bk} (H : RAt w r g N m ns)
include H
set_option maxHeartbeats 2000000 in
theorem rput_bad (hN : N ≤ 256) (hI : Nd ns) (hR : Rg (N : Int) ns) (b : Int) (d : List Int) (hd : d.length = 16) (hb : b < 0 ∨ (N : Int) ≤ b) : Calls Tryd.prog 20 #[.pointer (some ⟨r, 0, none⟩), .int .i64 b, .agg (row d)] w fun e w' => e = .returned (.int .i64 2) ∧ w.grownBy w' none := by
  have hg0 : w.grownBy (w.alloc (.cells (row d) 33)) none := grown_alloc (grown_refl _ _) _
  have H1 := H.grown hg0
  have hc := H1.c0
  have HG0 := Lib.hid hg0
  by_cases h0 : b < 0
  · clear hb H H1 hI hR hg0
    go_enter Tryd.func20, Tryd.ntmps20
    go_wp2
    go_ret
    exact ⟨rfl, HG0.out⟩
  · have h1 : (N : Int) ≤ b := by omega
    have h2 : decide ((N : Int) ≤ b) = true := by simpa using h1
    have h3 : decide (b < 0) = false := by simp; omega
    clear hb H H1 hI hR hg0 h0 h1
    go_enter Tryd.func20, Tryd.ntmps20
    go_wp2
    go_ret
    exact ⟨rfl, HG0.out⟩
set_option maxHeartbeats 2000000 in
theorem rput_there (hN : N ≤ 256) (hI : Nd ns) (hR : Rg (N : Int) ns) (b : Int) (d : List Int) (hd : d.length = 16) (hb : 0 ≤ b ∧ b < (N : Int)) (hs : (look ns b).isSome = true) : Calls Tryd.prog 20 #[.pointer (some ⟨r, 0, none⟩), .int .i64 b, .agg (row d)] w fun e w' => e = .returned (.int .i64 8) ∧ w.grownBy w' none := by
  have hg0 : w.grownBy (w.alloc (.cells (row d) 33)) none := grown_alloc (grown_refl _ _) _
  have H1 := H.grown hg0
  have hc := H1.c0
  have HG0 := Lib.hid hg0
  obtain ⟨k, rfl⟩ : ∃ k : Nat, b = (k : Int) := ⟨b.toNat, by omega⟩
  have hk : k < N := by omega
  have hci := H1.ci hk
  rw [hs] at hci
  have hk1 : (k : Int) < (N : Int) := by omega
  have h2 : decide ((N : Int) ≤ (k : Int)) = false := by simp; omega
  clear hb H H1 hI hR hg0 hs
  go_enter Tryd.func20, Tryd.ntmps20
  go_wp2
  go_ret
  exact ⟨rfl, HG0.out⟩
set_option maxHeartbeats 2000000 in
theorem rput_full (hN : N ≤ 256) (hI : Nd ns) (hR : Rg (N : Int) ns) (b : Int) (d : List Int) (hd : d.length = 16) (hb : 0 ≤ b ∧ b < (N : Int)) (hs : (look ns b).isSome = false) (hl : ns.length = m) : Calls Tryd.prog 20 #[.pointer (some ⟨r, 0, none⟩), .int .i64 b, .agg (row d)] w fun e w' => e = .returned (.int .i64 7) ∧ w.grownBy w' none := by
  have hg0 : w.grownBy (w.alloc (.cells (row d) 33)) none := grown_alloc (grown_refl _ _) _
  have H1 := H.grown hg0
  have hc := H1.c0
  have HG0 := Lib.hid hg0
  obtain ⟨k, rfl⟩ : ∃ k : Nat, b = (k : Int) := ⟨b.toNat, by omega⟩
  have hk : k < N := by omega
  have hci := H1.ci hk
  rw [hs] at hci
  have hk1 : (k : Int) < (N : Int) := by omega
  have h2 : decide ((N : Int) ≤ (k : Int)) = false := by simp; omega
  have HLE : Hid (∀ q, _) := Lib.hid fun q => rlen_any (H1.grown (grown_drewN (grown_refl _ none) q)) hN hI hR
  have hc1 := H1.c1
  have hlm : decide ((m : Int) ≤ (ns.length : Int)) = true := by simp; omega
  generalize (ns.length : Int) = L at HLE hlm
  clear hb H H1 hI hR hg0 hs hl
  go_enter Tryd.func20, Tryd.ntmps20
  go_wp2_with fail
  go_quiet ((go_at_call 24; exact Calls.quiet_of_same ((HLE.out _).mono fun _ _ he => ⟨he.1, he.2.symm⟩)))
  go_wp2_with fail
  go_ret
  exact ⟨rfl, grown_drewN HG0.out _⟩
set_option maxHeartbeats 2000000 in
theorem rput_ok (hN : N ≤ 256) (hI : Nd ns) (hR : Rg (N : Int) ns) (b : Int) (d : List Int) (hd : d.length = 16) (hb : 0 ≤ b ∧ b < (N : Int)) (hs : look ns b = none) (hl : ns.length < m) : Calls Tryd.prog 20 #[.pointer (some ⟨r, 0, none⟩), .int .i64 b, .agg (row d)] w fun e w' => e = .returned (.int .i64 0) ∧ RAt w' r g N m (ns ++ [fresh b d hd]) ∧ w.grownBy w' (some g) := by
  have hg0 : w.grownBy (w.alloc (.cells (row d) 33)) none := grown_alloc (grown_refl _ _) _
  have H1 := H.grown hg0
  have hc := H1.c0
  have HG0 := Lib.hid hg0
  obtain ⟨k, rfl⟩ : ∃ k : Nat, b = (k : Int) := ⟨b.toNat, by omega⟩
  have hk : k < N := by omega
  have hci := H1.ci hk
  rw [hs] at hci
  simp only [Option.isSome_none] at hci
  have hk1 : (k : Int) < (N : Int) := by omega
  have h2 : decide ((N : Int) ≤ (k : Int)) = false := by simp; omega
  have HLE : Hid (∀ q, _) := Lib.hid fun q => rlen_any (H1.grown (grown_drewN (grown_refl _ none) q)) hN hI hR
  have hc1 := H1.c1
  have hlm : decide ((m : Int) ≤ (ns.length : Int)) = false := by simp; omega
  generalize (ns.length : Int) = L at HLE hlm
  have HH1 := Lib.hid H1
  have HBX := Lib.hid (heap_alloc_new w (.cells (row d) 33))
  have HLK : Hid (∀ c : Nat, c ≠ k → look (ns ++ [fresh (k : Int) d hd]) (c : Int) = look ns (c : Int)) := Lib.hid fun c hc => by rw [look_app]; simp [fresh, show ¬ (k : Int) = (c : Int) by omega]
  have HLK2 : Hid (rof (look (ns ++ [fresh (k : Int) d hd]) (k : Int)) = ⟨true, true, d, hd⟩) := Lib.hid (by rw [look_app, hs]; simp [fresh, rof])
  clear hb H H1 hI hR hg0 hs hl
  go_enter Tryd.func20, Tryd.ntmps20
  go_wp2_with fail
  go_quiet ((go_at_call 24; exact Calls.quiet_of_same ((HLE.out _).mono fun _ _ he => ⟨he.1, he.2.symm⟩)))
  go_wp2_with fail
  obtain ⟨wq, hwq⟩ : ∃ W, (w.alloc (.cells (row d) 33)).drewN nq = W := ⟨_, rfl⟩
  have HGQ : Hid ((w.alloc (.cells (row d) 33)).grownBy wq none) := Lib.hid (by rw [← hwq]; exact grown_drewN (grown_refl _ _) _)
  rw [hwq]
  clear hwq
  have HH := Lib.hid (HH1.out.grown HGQ.out)
  have HB := Lib.hid ((HGQ.out.block _ (lt_of HBX.out) (by simp)).trans HBX.out)
  obtain ⟨cur, hty⟩ := HH.out.typ
  have HNG : Hid (w.heap.size ≠ g) := Lib.hid (tyne HB.out hty (by decide))
  have HRG : Hid (r ≠ g) := Lib.hid (tyne HH.out.blk hty (by decide))
  obtain ⟨ty, sz, HTY, hagg, hsize, hld, hsr, hst⟩ := named29
  have HP := Lib.hid (HH.out.put hk HLK.out)
  rw [HLK2.out] at HP
  have HS0 : Hid (wq.drew.cell? ⟨r, 0, none⟩ = some (.slice (some ⟨g, 0, none⟩) N N) ∧ (loadCellsFrom ⟨w.heap.size, 0, none⟩ 0 sz #[]).run Tryd.prog wq.drew = .ok (row d) wq.drew) := Lib.hid ⟨HH.out.c0, hld _ 0 d hd wq.drew (range_row HB.out)⟩
  have HS1 : Hid ((wq.drew.setCells g (k * 18) (rt ⟨true, true, d, hd⟩)).cell? ⟨r, 0, none⟩ = some (.slice (some ⟨g, 0, none⟩) N N) ∧ (loadCellsFrom ⟨w.heap.size, 0, none⟩ 0 sz #[]).run Tryd.prog (wq.drew.setCells g (k * 18) (rt ⟨true, true, d, hd⟩)) = .ok (row d) (wq.drew.setCells g (k * 18) (rt ⟨true, true, d, hd⟩))) := Lib.hid ⟨(World.cell?_of_block (heap_setCells_other _ r HRG.out _ _ _)).trans HH.out.c0, hld _ 0 d hd _ (fun j v hv => (World.cell?_of_block (heap_setCells_other _ w.heap.size HNG.out _ _ _)).trans (range_row HB.out j v hv))⟩
  have hs2 := store_rat ⟨true, true, d, hd⟩ wq.drew g (k * 18) (HH.out.there hk)
  have HP' : Hid (RAt (wq.drew.setCells g (k * 18) (rt ⟨true, true, d, hd⟩)) r g N m (ns ++ [fresh (k : Int) d hd]) ∧ w.grownBy (wq.drew.setCells g (k * 18) (rt ⟨true, true, d, hd⟩)) (some g)) := Lib.hid (by
    have h1 := (HH.out.grown (grown_drew (grown_refl _ _))).put hk HLK.out
    rw [HLK2.out] at h1
    exact ⟨h1.1, h1.2.os.trans (grown_trans HG0.out HGQ.out).os, h1.2.tape.trans (grown_trans HG0.out HGQ.out).tape, h1.2.output.trans (grown_trans HG0.out HGQ.out).output, Nat.le_trans (grown_trans HG0.out HGQ.out).size h1.2.size, fun i hi hn => (h1.2.block i (Nat.lt_of_lt_of_le hi (grown_trans HG0.out HGQ.out).size) hn).trans ((grown_trans HG0.out HGQ.out).block i hi (by simp))⟩)
  clear HP hld hst hsr hc hc1 hci hlm h2 hty HLE
  rw [HTY.out.1]
  refine wp_region_held_drew (S := fun W => W.cell? ⟨r, 0, none⟩ = some (.slice (some ⟨g, 0, none⟩) N N) ∧ (loadCellsFrom ⟨w.heap.size, 0, none⟩ 0 sz #[]).run Tryd.prog W = .ok (row d) W) (by kernel_rfl) HS0.out (fun hHeld => ?_)
  generalize wq.drew = W0 at hHeld hs2 HS0 HS1 HP' ⊢
  refine wpAnyH_take (i := 0) (oi := ⟨some 33, Op.move (Operand.tmp 0), _, _, _, _⟩) (v := ?v6) rfl (by kernel_rfl) (by kernel_rfl) (by kernel_rfl) (fun _ _ _ h => h) (Or.inl ⟨by rfl, ?hy6⟩) (by assumption) ?rest6
  case hy6 => ((intro w0 hSw; obtain ⟨h1, h2⟩ := hSw; go_simp); try (with_reducible rfl))
  try simp only [Act.put, List.setIfInBounds_toArray, List.set_cons_zero, List.set_cons_succ]
  refine wpAnyH_take (i := 1) (oi := ⟨some 34, Op.nilCheck (Operand.tmp 33), _, _, _, _⟩) (v := ?v7) rfl (by kernel_rfl) (by kernel_rfl) (by kernel_rfl) (fun _ _ _ h => h) (Or.inl ⟨by rfl, ?hy7⟩) (by assumption) ?rest7
  case hy7 => ((intro w0 hSw; obtain ⟨h1, h2⟩ := hSw; go_simp); try (with_reducible rfl))
  try simp only [Act.put, List.setIfInBounds_toArray, List.set_cons_zero, List.set_cons_succ]
  refine wpAnyH_take (i := 2) (oi := ⟨some 35, Op.fieldAddr 70 (Operand.tmp 34) 0, _, _, _, _⟩) (v := ?v8) rfl (by kernel_rfl) (by kernel_rfl) (by kernel_rfl) (fun _ _ _ h => h) (Or.inl ⟨by rfl, ?hy8⟩) (by assumption) ?rest8
  case hy8 => ((intro w0 hSw; obtain ⟨h1, h2⟩ := hSw; go_simp); try (with_reducible rfl))
  try simp only [Act.put, List.setIfInBounds_toArray, List.set_cons_zero, List.set_cons_succ]
  refine wpAnyH_take (i := 3) (oi := ⟨some 36, Op.load 68 (Operand.tmp 35), _, _, _, _⟩) (v := ?v9) rfl (by kernel_rfl) (by kernel_rfl) (by kernel_rfl) (fun _ _ _ h => h) (Or.inl ⟨by rfl, ?hy9⟩) (by assumption) ?rest9
  case hy9 => ((intro w0 hSw; obtain ⟨h1, h2⟩ := hSw; go_simp); try (with_reducible rfl))
  try simp only [Act.put, List.setIfInBounds_toArray, List.set_cons_zero, List.set_cons_succ]
  refine wpAnyH_take (i := 4) (oi := ⟨some 37, Op.move (Operand.tmp 1), _, _, _, _⟩) (v := ?v10) rfl (by kernel_rfl) (by kernel_rfl) (by kernel_rfl) (fun _ _ _ h => h) (Or.inl ⟨by rfl, ?hy10⟩) (by assumption) ?rest10
  case hy10 => ((intro w0 hSw; obtain ⟨h1, h2⟩ := hSw; go_simp); try (with_reducible rfl))
  try simp only [Act.put, List.setIfInBounds_toArray, List.set_cons_zero, List.set_cons_succ]
  refine wpAnyH_take (i := 5) (oi := ⟨some 38, Op.load ty (Operand.tmp 5), _, _, _, _⟩) (v := ?v11) rfl (by kernel_rfl) (by kernel_rfl) (by kernel_rfl) (fun _ _ _ h => h) (Or.inl ⟨by rfl, ?hy11⟩) (by assumption) ?rest11
  case hy11 => ((intro w0 hSw; obtain ⟨h1, h2⟩ := hSw; go_simp); try (with_reducible rfl))
  try simp only [Act.put, List.setIfInBounds_toArray, List.set_cons_zero, List.set_cons_succ]
  refine wpAnyH_take (i := 6) (oi := ⟨some 39, Op.build 72 #[(0, Operand.const (Value.bool true)), (1, Operand.const (Value.bool true)), (2, (Operand.tmp 38))], _, _, _, _⟩) (v := ?v12) rfl (by kernel_rfl) (by kernel_rfl) (by kernel_rfl) (fun _ _ _ h => h) (Or.inl ⟨by rfl, ?hy12⟩) (by assumption) ?rest12
  case hy12 => ((intro w0 hSw; have hb1 := buildR d hd; have hb2 := ra_size ⟨true, true, d, hd⟩; have hb4 : (row d).size = 16 := (by simp [row, hd]); go_simp); try (with_reducible rfl))
  try simp only [Act.put, List.setIfInBounds_toArray, List.set_cons_zero, List.set_cons_succ]
  refine wpAnyH_take (i := 7) (oi := ⟨some 40, Op.indexAddr 68 (Operand.tmp 36) (Operand.tmp 37), _, _, _, _⟩) (v := ?v13) rfl (by kernel_rfl) (by kernel_rfl) (by kernel_rfl) (fun _ _ _ h => h) (Or.inl ⟨by rfl, ?hy13⟩) (by assumption) ?rest13
  case hy13 => ((intro w0 hSw; obtain ⟨h1, h2⟩ := hSw; go_simp); try (with_reducible rfl))
  try simp only [Act.put, List.setIfInBounds_toArray, List.set_cons_zero, List.set_cons_succ]
  have hsz := ra_size ⟨true, true, d, hd⟩
  refine wpAnyH_ready (rs := [8]) (by kernel_rfl) (by simp) ?_
  refine AllReadyH.cons (o := ⟨none, Op.store 72 (Operand.tmp 40) (Operand.tmp 39), _, _, _, _⟩) rfl (fun K hK => ?_) AllReadyH.nil
  go_simp
  refine hK.out _ _ HS1.out (fun hHeld => ?_)
  clear hK K
  try simp only [Act.put, List.setIfInBounds_toArray, List.set_cons_zero, List.set_cons_succ]
  refine wpAnyH_done (by kernel_rfl) ?_ _
  clear hs2 hHeld HS0 HS1
  generalize W0.setCells g (k * 18) (rt ⟨true, true, d, hd⟩) = Y at HP' ⊢
  go_wp2_with fail
  go_ret
  exact ⟨rfl, HP'.out.1, HP'.out.2⟩
theorem rput_any (hN : N ≤ 256) (hI : Nd ns) (hR : Rg (N : Int) ns) (hm : ns.length ≤ m) (b : Int) (d : List Int) (hd : d.length = 16) : Calls Tryd.prog 20 #[.pointer (some ⟨r, 0, none⟩), .int .i64 b, .agg (row d)] w fun e w' => e = .returned (.int .i64 (putE (N : Int) m ns b)) ∧ RAt w' r g N m (puts (N : Int) m ns b d hd) ∧ w.grownBy w' (some g) := by
  have up : ∀ w', w.grownBy w' none → w.grownBy w' (some g) := fun w' h => ⟨h.os, h.tape, h.output, h.size, fun k hk _ => h.block k hk (by simp)⟩
  unfold puts
  by_cases h1 : b < 0 ∨ (N : Int) ≤ b
  · have he : putE (N : Int) m ns b = 2 := by unfold putE; rw [if_pos h1]
    rw [he, if_neg (by decide)]
    exact (rput_bad H hN hI hR b d hd h1).mono fun e w' ⟨a, hg⟩ => ⟨a, H.grown hg, up w' hg⟩
  · by_cases h2 : (look ns b).isSome = true
    · have he : putE (N : Int) m ns b = 8 := by unfold putE; rw [if_neg h1, if_pos h2]
      rw [he, if_neg (by decide)]
      exact (rput_there H hN hI hR b d hd (by omega) h2).mono fun e w' ⟨a, hg⟩ => ⟨a, H.grown hg, up w' hg⟩
    · by_cases h3 : ns.length = m
      · have he : putE (N : Int) m ns b = 7 := by unfold putE; rw [if_neg h1, if_neg h2, if_pos h3]
        rw [he, if_neg (by decide)]
        exact (rput_full H hN hI hR b d hd (by omega) (by simpa using h2) h3).mono fun e w' ⟨a, hg⟩ => ⟨a, H.grown hg, up w' hg⟩
      · have he : putE (N : Int) m ns b = 0 := by unfold putE; rw [if_neg h1, if_neg h2, if_neg h3]
        rw [he, if_pos rfl]
        exact rput_ok H hN hI hR b d hd (by omega) (by simpa using h2) (by omega)
end
end Go.Proofs.YtoifeinkaaclmaaDoor.bk
