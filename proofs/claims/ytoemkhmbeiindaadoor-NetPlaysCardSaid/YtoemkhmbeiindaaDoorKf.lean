/-
  The law NetPlays returns true: the walk. Condition: the tables of bounds and of kinds lie in their variables as the program's text has them; that the script lies where the argument says.
-/
import Derived.Test.YtoemkhmbeiindaaDoorKf0
import Derived.Test.YtoemkhmbeiindaaDoorRd
namespace Go.Proofs.YtoemkhmbeiindaaDoor.tt
open Go Go.ChangeShapes Go.WideShapes Go.ChangeAt Go.RowKit Go.Shelf
set_option linter.unusedVariables false

set_option maxRecDepth 1000000 in
set_option maxHeartbeats 1000000 in
theorem plays_long (c : Cfg) (room : Int) (ad : Option Addr) (len cap : Nat) (w : World) (hT : Tab w) (hK : TabK w) (h : 300 < len) :
    Calls Tryd.prog 4 #[.agg c.cells, .int .i64 room, .slice ad len cap] w fun e w' => e = .returned (.bool true) ∧ w.grownBy w' none := by
  have hd : decide ((300 : Int) < (len : Int)) = true := by simp; omega
  have hg0 : w.grownBy (w.alloc (.cells c.cells 27)) none := grown_alloc (grown_refl _ _) _
  have HW : Hid (∀ w', w.grownBy w' none → _) := Lib.hid (fun w' h => works_any w' (hT.grown h) (hK.grown h))
  obtain ⟨c0, c1, c2, c3, c4, c5, c6, c7⟩ := cfg_at w c
  have HG0 := Lib.hid hg0
  clear hT hK h hg0
  unfold Cfg.cells at *
  go_enter Tryd.func4, Tryd.ntmps4
  go_wp2_with (first
    | (go_at_call 11; ((with_reducible refine (HW.out _ HG0.out).mono ?_); rintro e w3 ⟨rfl, hgw3⟩; have Gw3 := Lib.hid (grown_trans HG0.out hgw3); clear hgw3))
    | (go_at_call 11; ((with_reducible refine (HW.out _ Gw3.out).mono ?_); rintro e w4 ⟨rfl, hgw4⟩; have Gw4 := Lib.hid (grown_trans Gw3.out hgw4); clear hgw4)))
  go_ret
  exact ⟨rfl, Gw4.out⟩
set_option maxRecDepth 1000000 in
set_option maxHeartbeats 1000000 in
theorem plays_no (c : Cfg) (room : Int) (ad : Option Addr) (len cap : Nat) (w : World) (hT : Tab w) (hK : TabK w) (h : len ≤ 300) (hm : ¬ (c.may ∧ 1 ≤ room ∧ room ≤ 1024)) :
    Calls Tryd.prog 4 #[.agg c.cells, .int .i64 room, .slice ad len cap] w fun e w' => e = .returned (.bool true) ∧ w.grownBy w' none := by
  have hd : decide ((300 : Int) < (len : Int)) = false := by simp; omega
  have hg0 : w.grownBy (w.alloc (.cells c.cells 27)) none := grown_alloc (grown_refl _ _) _
  have HW : Hid (∀ w', w.grownBy w' none → _) := Lib.hid (fun w' h => works_any w' (hT.grown h) (hK.grown h))
  obtain ⟨c0, c1, c2, c3, c4, c5, c6, c7⟩ := cfg_at w c
  have HG0 := Lib.hid hg0
  have HA := Lib.hid (cfg_at w c)
  have HN : Hid (∀ w', w.grownBy w' none → _) := Lib.hid (fun w' h => own_new_bad c room w' (hT.grown h) hm)
  have HM : Hid (∀ w', _) := Lib.hid (fun w' => rnew_bad c room w' hm)
  clear hT hK h hm hg0
  unfold Cfg.cells at HN HM HG0 HW HA c0 c1 c2 c3 c4 c5 c6 c7 ⊢
  go_enter Tryd.func4, Tryd.ntmps4
  go_wp2_with (first
    | (go_at_call 11; ((with_reducible refine (HW.out _ HG0.out).mono ?_); rintro e w3 ⟨rfl, hg3⟩; obtain ⟨d0, d1, d2, d3, d4, d5, d6, d7⟩ := HA.out.grown hg3; have HA3 := Lib.hid (HA.out.grown hg3); have Gw3 := Lib.hid (grown_trans HG0.out hg3); clear hg3))
    | (go_at_call 9; ((with_reducible refine (HN.out _ Gw3.out).mono ?_); rintro e w4 ⟨rfl, hg4⟩; obtain ⟨f0, f1, f2, f3, f4, f5, f6, f7⟩ := HA3.out.grown hg4; have Gw4 := Lib.hid (grown_trans Gw3.out hg4); clear hg4))
    | (go_at_call 20; ((with_reducible refine (HM.out _).mono ?_); rintro e w5 ⟨rfl, hg5⟩; have Gw5 := Lib.hid (grown_trans Gw4.out hg5); clear hg5))
    | (go_at_call 11; ((with_reducible refine (HW.out _ Gw5.out).mono ?_); rintro e w6 ⟨rfl, hgw6⟩; have Gw6 := Lib.hid (grown_trans Gw5.out hgw6); clear hgw6)))
  go_ret
  exact ⟨rfl, Gw6.out⟩

set_option maxRecDepth 1000000 in
set_option maxHeartbeats 16000000 in
theorem plays_some (c : Cfg) (r : Nat) (os : List OpX) (ad : Option Addr) (len cap : Nat) (w : World) (hT : Tab w) (hK : TabK w) (hlen : len = os.length) (hat : OpsAt w ad os) (h : len ≤ 300) (hm : c.may) (h1 : 1 ≤ r) (h2 : r ≤ 1024) :
    Calls Tryd.prog 4 #[.agg c.cells, .int .i64 (r : Int), .slice ad len cap] w fun e w' => e = .returned (.bool true) ∧ w.grownBy w' none := by
  have hd : decide ((300 : Int) < (len : Int)) = false := by simp; omega
  have hg0 : w.grownBy (w.alloc (.cells c.cells 27)) none := grown_alloc (grown_refl _ _) _
  have HW : Hid (∀ w', w.grownBy w' none → _) := Lib.hid (fun w' h => works_any w' (hT.grown h) (hK.grown h))
  obtain ⟨c0, c1, c2, c3, c4, c5, c6, c7⟩ := cfg_at w c
  have HG0 := Lib.hid hg0
  have HA := Lib.hid (cfg_at w c)
  have HN : Hid (∀ w', w.grownBy w' none → _) := Lib.hid (fun w' h => own_new c r w' (hT.grown h) hm h1 h2)
  have HM : Hid (∀ w', _) := Lib.hid (fun w' => rnew_ok c r w' hm h1 h2)
  have HT := Lib.hid hT
  have HK := Lib.hid hK
  have HAT := Lib.hid (fun w' (h : w.grownBy w' none) => hat.grown h)
  have HL := Lib.hid hlen
  have HLEN := Lib.hid h
  have HR2 := Lib.hid h2
  have HMAY := Lib.hid hm
  clear hT hK hm hg0 hat hlen h1 h2
  unfold Cfg.cells at HN HM HG0 HW HA c0 c1 c2 c3 c4 c5 c6 c7 ⊢
  go_enter Tryd.func4, Tryd.ntmps4
  go_wp2_with (first
    | (go_at_call 11; ((with_reducible refine (HW.out _ HG0.out).mono ?_); rintro e w3 ⟨rfl, hg3⟩; obtain ⟨d0, d1, d2, d3, d4, d5, d6, d7⟩ := HA.out.grown hg3; have HA3 := Lib.hid (HA.out.grown hg3); have Gw3 := Lib.hid (grown_trans HG0.out hg3); clear hg3))
    | (go_at_call 9; ((with_reducible refine (HN.out _ Gw3.out).mono ?_); rintro e w4 ⟨t, p, rfl, ho4⟩; obtain ⟨f0, f1, f2, f3, f4, f5, f6, f7⟩ := HA3.out.grown ho4.old; have HO4 := Lib.hid (ho4.from Gw3.out); clear ho4))
    | (go_at_call 20; ((with_reducible refine (HM.out _).mono ?_); rintro e w5 ⟨q, rfl, hr5, hg5, hq5⟩; have HD5 : Hid (Duo w w5 t p c r (.slice none 0 0) [] 0 q (.slice none 0 0) [] 0) := Lib.hid ⟨HO4.out.grown hg5, hr5, Nat.le_trans HO4.out.old.size hq5, by simp [Value.ownBlock]⟩; clear hr5 hg5 hq5 c0 c1 c2 c3 c4 c5 c6 c7 d0 d1 d2 d3 d4 d5 d6 d7 f0 f1 f2 f3 f4 f5 f6 f7)))
  clear HN HM HA
  go_loopw [46, 7] (fun i tv wr => ∃ (j t p : Nat) (v u : Value) (ns : List Nt) (h : Int), j ≤ len ∧ i = .int .i64 (j : Int) ∧ tv = .pointer (some ⟨t, 0, none⟩) ∧ (0 ≤ h ∧ h ≤ 8 * (j : Int)) ∧ Duo w wr t p c r v ns h q u ns h) (fun i _ _ => len - (intOf i).toNat)
  case atStart => exact ⟨0, _, _, _, _, [], 0, Nat.zero_le _, rfl, rfl, ⟨by omega, by omega⟩, HD5.out⟩
  case round =>
    clear HD5
    obtain ⟨j, t, p, v, u, ns, h, hj, rfl, rfl, hhb, hdd⟩ := hrel
    have HD := Lib.hid hdd
    have HHB := Lib.hid hhb
    have hj300 : j ≤ 300 := by have := HLEN.out; omega
    have HL6 := Lib.hid (len_64k hdd.own.net.inv)
    clear hdd hhb
    by_cases hlt : j < len
    · obtain ⟨o, ho9⟩ : ∃ o, os[j]? = some o := ⟨_, List.getElem?_eq_getElem (by have := HL.out; omega)⟩
      obtain ⟨b, off, rfl, hr⟩ := HAT.out _ HD.out.own.old j o ho9
      have HR := Lib.hid hr
      obtain ⟨w3, hw, hg3, r12, r13, r14⟩ := threez wr o
      have hz : na zn = _ := bare_na 0 0 0 0 0 0 false false
      rw [hz] at hw
      have HZ := Lib.hid hz
      have HG3 := Lib.hid hg3
      have H12 := Lib.hid r12
      have H13 := Lib.hid r13
      have H14 := Lib.hid r14
      have HD3 := Lib.hid (HD.out.grown hg3)
      have HN12 := Lib.hid (HD.out.own.ne wr.heap.size (Nat.le_refl _))
      have HN13 := Lib.hid (HD.out.own.ne (wr.heap.size + 1) (by omega))
      have HN14 := Lib.hid (HD.out.own.ne (wr.heap.size + 1 + 1) (by omega))
      have HQL : Hid (q < wr.heap.size) := Lib.hid HD.out.ref.lt
      have HUL : Hid (∀ k, u.ownBlock = some k → k < wr.heap.size) := Lib.hid HD.out.ref.sl.lt
      have HWL : Hid (w.heap.size ≤ wr.heap.size) := Lib.hid HD.out.own.old.size
      obtain ⟨kk0, kk1, kk2⟩ := op_cell r12
      have hlt0 := lt_of r12
      clear ho9 hr hg3 r12 r13 r14 hz
      by_cases e0 : o.kind = 0
      · skip
        have ek0 : (o.kind == 0) = true := by simp; omega
        clear e0
        obtain ⟨t0, m0, HT0, hagg0, hsize0, hld0⟩ := namedO
        have HSD : Hid (∀ w' (D : Duo w w' t p c r v ns h q u ns h), _) := Lib.hid fun w' D => own_send (HT.out) (HK.out) D.own o.n
        have HRS : Hid (∀ w' v' ns' h' (D : Duo w w' t p c r v' ns' h' q u ns h), _) := Lib.hid fun w' v' ns' h' D => rsend_any q c r u ns h o.n w' D.ref HMAY.out HR2.out HL6.out
        obtain ⟨z, hz9⟩ : ∃ z, z = sendE c r ns o.n := ⟨_, rfl⟩
        obtain ⟨ms, hm9⟩ : ∃ ms, ms = sendN c r ns o.n := ⟨_, rfl⟩
        rw [← hz9, ← hm9] at HSD HRS
        have HX0 : Hid (∀ w', w'.heap[wr.heap.size]? = some (.cells (oa o) 49 (0, 0)) → (loadCellsFrom ⟨wr.heap.size, 3, none⟩ 0 m0 #[]).run Tryd.prog w' = .ok (na o.n) w') := Lib.hid fun w' h' => hld0 _ _ _ _ (op_note h')
        clear hz9 hm9 hld0
        go_wp2_with (first
          | ((with_reducible refine load_op o _ b (off + j * 27) ?_ HR.out ?_); (rfl))
          | ((with_reducible refine store_op o _ _ _ ?_ ?_ ?_ ?_); (rfl); (rfl); (rfl)))
        rw [HT0.out]
        refine wp_region_held_drew (S := fun w' => (loadCellsFrom ⟨wr.heap.size, 3, none⟩ 0 m0 #[]).run Tryd.prog w' = .ok (na o.n) w') (by kernel_rfl) (HX0.out _ H12.out) (fun hHeld => ?_)
        refine wpAnyH_take (i := 0) (oi := ⟨some 54, Op.move (Operand.tmp 7), _, _, _, _⟩) (v := ?v1) rfl (by kernel_rfl) (by kernel_rfl) (by kernel_rfl) (fun _ _ _ h => h) (Or.inl ⟨by rfl, ?hy1⟩) (by assumption) ?rest1
        case hy1 => ((intro w0 hSw; have hs1 := hSw; go_simp); try (with_reducible rfl))
        try simp only [Act.put, List.setIfInBounds_toArray, List.set_cons_zero, List.set_cons_succ]
        refine wpAnyH_take (i := 1) (oi := ⟨some 55, Op.fieldAddr 49 (Operand.tmp 12) 3, _, _, _, _⟩) (v := ?v2) rfl (by kernel_rfl) (by kernel_rfl) (by kernel_rfl) (fun _ _ _ h => h) (Or.inl ⟨by rfl, ?hy2⟩) (by assumption) ?rest2
        case hy2 => ((intro w0 hSw; have hs1 := hSw; go_simp); try (with_reducible rfl))
        try simp only [Act.put, List.setIfInBounds_toArray, List.set_cons_zero, List.set_cons_succ]
        refine wpAnyH_take (i := 2) (oi := ⟨some 56, Op.load t0 (Operand.tmp 55), _, _, _, _⟩) (v := ?v3) rfl (by kernel_rfl) (by kernel_rfl) (by kernel_rfl) (fun _ _ _ h => h) (Or.inl ⟨by rfl, ?hy3⟩) (by assumption) ?rest3
        case hy3 => ((intro w0 hSw; have hs1 := hSw; go_simp); try (with_reducible rfl))
        try simp only [Act.put, List.setIfInBounds_toArray, List.set_cons_zero, List.set_cons_succ]
        refine wpAnyH_take (i := 4) (oi := ⟨some 58, Op.move (Operand.tmp 9), _, _, _, _⟩) (v := ?v4) rfl (by kernel_rfl) (by kernel_rfl) (by kernel_rfl) (fun _ _ _ h => h) (Or.inl ⟨by rfl, ?hy4⟩) (by assumption) ?rest4
        case hy4 => ((intro w0 hSw; have hs1 := hSw; go_simp); try (with_reducible rfl))
        try simp only [Act.put, List.setIfInBounds_toArray, List.set_cons_zero, List.set_cons_succ]
        refine wpAnyH_take (i := 5) (oi := ⟨some 59, Op.fieldAddr 49 (Operand.tmp 12) 3, _, _, _, _⟩) (v := ?v5) rfl (by kernel_rfl) (by kernel_rfl) (by kernel_rfl) (fun _ _ _ h => h) (Or.inl ⟨by rfl, ?hy5⟩) (by assumption) ?rest5
        case hy5 => ((intro w0 hSw; have hs1 := hSw; go_simp); try (with_reducible rfl))
        try simp only [Act.put, List.setIfInBounds_toArray, List.set_cons_zero, List.set_cons_succ]
        refine wpAnyH_take (i := 6) (oi := ⟨some 60, Op.load t0 (Operand.tmp 59), _, _, _, _⟩) (v := ?v6) rfl (by kernel_rfl) (by kernel_rfl) (by kernel_rfl) (fun _ _ _ h => h) (Or.inl ⟨by rfl, ?hy6⟩) (by assumption) ?rest6
        case hy6 => ((intro w0 hSw; have hs1 := hSw; go_simp); try (with_reducible rfl))
        try simp only [Act.put, List.setIfInBounds_toArray, List.set_cons_zero, List.set_cons_succ]
        refine wpAnyH_ready (rs := [3]) (by kernel_rfl) (by simp) ?_
        refine AllReadyH.cons (o := ⟨some 57, Op.call { callee := Callee.value (Operand.func 12), args := #[(Operand.tmp 54), (Operand.tmp 56)], argTypes := #[22, 37] }, _, _, _, _⟩) rfl (fun K hK => ?_) AllReadyH.nil
        go_simp
        (with_reducible refine (HSD.out _ (HD3.out.grown (grown_drew (grown_refl _ _)))).mono ?_); rintro e w4 ⟨rfl, v4, ho4, ht4⟩; have HD4 := Lib.hid ((HD3.out.grown (grown_drew (grown_refl _ _))).turn ho4 ht4); have HX12 := Lib.hid (ht4.row H12.out HN12.out); have HX13 := Lib.hid (ht4.row H13.out HN13.out); have HX14 := Lib.hid (ht4.row H14.out HN14.out); clear ho4 ht4
        go_wp2_with fail
        refine hK.out _ _ (HX0.out _ HX12.out) (fun hHeld => ?_)
        clear hK K
        try simp only [Act.put, List.setIfInBounds_toArray, List.set_cons_zero, List.set_cons_succ]
        refine wpAnyH_ready (rs := [7]) (by kernel_rfl) (by simp) ?_
        refine AllReadyH.cons (o := ⟨some 61, Op.call { callee := Callee.value (Operand.func 21), args := #[(Operand.tmp 58), (Operand.tmp 60)], argTypes := #[45, 37] }, _, _, _, _⟩) rfl (fun K hK => ?_) AllReadyH.nil
        go_simp
        (with_reducible refine (HRS.out _ _ _ _ HD4.out).mono ?_); rintro e w5 ⟨rfl, u5, hr5, hg5, hn5⟩; have HD5 := Lib.hid (HD4.out.turnR hr5 hg5 hn5); have HY12 := Lib.hid (grown_row HX12.out hg5 (by have := HQL.out; omega)); have HY13 := Lib.hid (grown_row HX13.out hg5 (by have := HQL.out; omega)); have HY14 := Lib.hid (grown_row HX14.out hg5 (by have := HQL.out; omega)); clear hr5 hg5 hn5
        go_wp2_with fail
        refine hK.out _ _ (HX0.out _ HY12.out) (fun hHeld => ?_)
        clear hK K
        try simp only [Act.put, List.setIfInBounds_toArray, List.set_cons_zero, List.set_cons_succ]
        refine wpAnyH_take (i := 8) (oi := ⟨some 8, Op.assign (Operand.tmp 57), _, _, _, _⟩) (v := ?v7) rfl (by kernel_rfl) (by kernel_rfl) (by kernel_rfl) (fun _ _ _ h => h) (Or.inl ⟨by rfl, ?hy7⟩) (by assumption) ?rest7
        case hy7 => ((intro w0 hSw; go_simp); try (with_reducible rfl))
        try simp only [Act.put, List.setIfInBounds_toArray, List.set_cons_zero, List.set_cons_succ]
        refine wpAnyH_take (i := 9) (oi := ⟨some 10, Op.assign (Operand.tmp 61), _, _, _, _⟩) (v := ?v8) rfl (by kernel_rfl) (by kernel_rfl) (by kernel_rfl) (fun _ _ _ h => h) (Or.inl ⟨by rfl, ?hy8⟩) (by assumption) ?rest8
        case hy8 => ((intro w0 hSw; go_simp); try (with_reducible rfl))
        try simp only [Act.put, List.setIfInBounds_toArray, List.set_cons_zero, List.set_cons_succ]
        refine wpAnyH_done (by kernel_rfl) ?_ _
        have HHE : Hid (0 ≤ h ∧ h ≤ 8 * ((j + 1 : Nat) : Int)) := Lib.hid (by have := HHB.out; omega)
        obtain ⟨t', mm, HTT, hagg, hsize, hld⟩ := namedO
        obtain ⟨adu, capu, hform⟩ := HD5.out.ref.sl.form
        have c9 := HD5.out.ref.c9
        have c10 := HD5.out.ref.c10
        rw [hform] at c9
        have hl1 : ∀ n, (loadCellsFrom ⟨wr.heap.size + 1, 0, none⟩ 0 mm #[]).run Tryd.prog (w5.drewN n) = .ok (na zn) (w5.drewN n) := fun n => hld _ _ _ _ (range_grown (range_of HY13.out) (grown_drewN (grown_refl _ none) n) (by simp))
        have hl2 : ∀ n, (loadCellsFrom ⟨wr.heap.size + 1 + 1, 0, none⟩ 0 mm #[]).run Tryd.prog (w5.drewN n) = .ok (na zn) (w5.drewN n) := fun n => hld _ _ _ _ (range_grown (range_of HY14.out) (grown_drewN (grown_refl _ none) n) (by simp))
        have hqn := neq_self zn
        have HLE9 : Hid (∀ n, _) := Lib.hid fun n => own_len (HD5.out.own.grown (grown_drewN (grown_refl _ none) n))
        have HHO9 : Hid (∀ n, _) := Lib.hid fun n => own_hops (HD5.out.own.grown (grown_drewN (grown_refl _ none) n))
        clear hld hform
        go_wp2_with fail
        rw [HTT.out]
        go_quiet (first
          | (go_at_call 17; exact Calls.quiet_of_same ((HLE9.out _).mono fun _ _ he => ⟨he.1, he.2.symm⟩))
          | (go_at_call 15; exact Calls.quiet_of_same ((HHO9.out _).mono fun _ _ he => ⟨he.1, he.2.symm⟩)))
        go_wp2_with fail
        go_roundw
        case rel => exact ⟨j + 1, _, _, _, _, _, _, by omega, by go_num, rfl, HHE.out, HD5.out.grown (grown_drewN (grown_refl _ none) _)⟩
        case measure => simp [intOf]; omega
      · skip
        by_cases e1 : o.kind = 1
        · skip
          have ek0 : (o.kind == 0) = false := by simp; omega
          have ek1 : (o.kind == 1) = true := by simp; omega
          clear e0 e1
          by_cases hin : o.i < 0 ∨ (ns.length : Int) ≤ o.i
          · have HTO : Hid (Calls Tryd.prog 14 _ w3 _) := Lib.hid (own_take_out HD3.out.own o.i hin)
            have HRT : Hid (∀ w' (D : Duo w w' t p c r v ns h q u ns h), _) := Lib.hid fun w' D => rtake_out q c r u ns h w' D.ref o.i hin
            clear hin
            go_wp2_with (first
              | ((with_reducible refine load_op o _ b (off + j * 27) ?_ HR.out ?_); (rfl))
              | ((with_reducible refine store_op o _ _ _ ?_ ?_ ?_ ?_); (rfl); (rfl); (rfl))
              | (go_at_call 14; ((with_reducible refine HTO.out.mono ?_); rintro e w4 ⟨rfl, hg4⟩; have h13 := (hg4.block _ (lt_of H13.out) (by simp)).trans H13.out; have h12 := (hg4.block _ (lt_of H12.out) (by simp)).trans H12.out; have h14 := (hg4.block _ (lt_of H14.out) (by simp)).trans H14.out; have HX13 := Lib.hid h13; have HD4 := Lib.hid ((HD3.out.grown hg4).set (cs := na zn) (b := wr.heap.size + 1) (by have := HWL.out; omega) HN13.out (by have := HQL.out; omega) (fun e => by have := HUL.out _ e.symm; omega)); have HY12 := Lib.hid (row_set (ds := na zn) h12 (show wr.heap.size ≠ wr.heap.size + 1 by omega)); have HY13 := Lib.hid (setRow_heap _ _ _ (na zn) _ _ h13); have HY14 := Lib.hid (row_set (ds := na zn) h14 (show wr.heap.size + 1 + 1 ≠ wr.heap.size + 1 by omega)); have gg1 := (op_cell HY12.out).2.1; clear h12 h13 h14 hg4))
              | ((with_reducible refine store_any zn _ _ _ (wr.heap.size + 1) ?_ ?_ HX13.out ?_ ?_); (rfl); (rfl); (rfl))
              | (go_at_call 22; ((with_reducible refine (HRT.out _ HD4.out).mono ?_); rintro e w5 ⟨rfl, hg5⟩; have h13 := (hg5.block _ (lt_of HY13.out) (by simp)).trans HY13.out; have h14 := (hg5.block _ (lt_of HY14.out) (by simp)).trans HY14.out; have HX14 := Lib.hid h14; have HD5 := Lib.hid ((HD4.out.grown hg5).set (cs := na zn) (b := wr.heap.size + 1 + 1) (by have := HWL.out; omega) HN14.out (by have := HQL.out; omega) (fun e => by have := HUL.out _ e.symm; omega)); have HZ13 := Lib.hid (row_set (ds := na zn) h13 (show wr.heap.size + 1 ≠ wr.heap.size + 1 + 1 by omega)); have HZ14 := Lib.hid (setRow_heap _ _ _ (na zn) _ _ h14); clear h13 h14 hg5))
              | ((with_reducible refine store_any zn _ _ _ (wr.heap.size + 1 + 1) ?_ ?_ HX14.out ?_ ?_); (rfl); (rfl); (rfl)))
            obtain ⟨w6, hw6⟩ : ∃ w6, w5.setRow (wr.heap.size + 1 + 1) (na zn) = w6 := ⟨_, rfl⟩
            rw [hw6] at HD5 HZ13 HZ14 ⊢
            clear hw6
            have HHE : Hid (0 ≤ h ∧ h ≤ 8 * ((j + 1 : Nat) : Int)) := Lib.hid (by have := HHB.out; omega)
            obtain ⟨t', mm, HTT, hagg, hsize, hld⟩ := namedO
            obtain ⟨adu, capu, hform⟩ := HD5.out.ref.sl.form
            have c9 := HD5.out.ref.c9
            have c10 := HD5.out.ref.c10
            rw [hform] at c9
            have hl1 : ∀ n, (loadCellsFrom ⟨wr.heap.size + 1, 0, none⟩ 0 mm #[]).run Tryd.prog (w6.drewN n) = .ok (na zn) (w6.drewN n) := fun n => hld _ _ _ _ (range_grown (range_of HZ13.out) (grown_drewN (grown_refl _ none) n) (by simp))
            have hl2 : ∀ n, (loadCellsFrom ⟨wr.heap.size + 1 + 1, 0, none⟩ 0 mm #[]).run Tryd.prog (w6.drewN n) = .ok (na zn) (w6.drewN n) := fun n => hld _ _ _ _ (range_grown (range_of HZ14.out) (grown_drewN (grown_refl _ none) n) (by simp))
            have hqn := neq_self zn
            have HLE9 : Hid (∀ n, _) := Lib.hid fun n => own_len (HD5.out.own.grown (grown_drewN (grown_refl _ none) n))
            have HHO9 : Hid (∀ n, _) := Lib.hid fun n => own_hops (HD5.out.own.grown (grown_drewN (grown_refl _ none) n))
            clear hld hform
            go_wp2_with fail
            rw [HTT.out]
            go_quiet (first
              | (go_at_call 17; exact Calls.quiet_of_same ((HLE9.out _).mono fun _ _ he => ⟨he.1, he.2.symm⟩))
              | (go_at_call 15; exact Calls.quiet_of_same ((HHO9.out _).mono fun _ _ he => ⟨he.1, he.2.symm⟩)))
            go_wp2_with fail
            go_roundw
            case rel => exact ⟨j + 1, _, _, _, _, _, _, by omega, by go_num, rfl, HHE.out, HD5.out.grown (grown_drewN (grown_refl _ none) _)⟩
            case measure => simp [intOf]; omega
          · obtain ⟨k, hk⟩ : ∃ k : Nat, o.i = (k : Int) := ⟨o.i.toNat, by omega⟩
            obtain ⟨x, hx⟩ : ∃ x, ns[k]? = some x := ⟨_, List.getElem?_eq_getElem (by omega)⟩
            have hxf := HD.out.own.net.inv.all x (List.mem_of_getElem? hx)
            have HHK := Lib.hid hk
            have HTO : Hid (Calls Tryd.prog 14 _ w3 _) := Lib.hid (own_take HD3.out.own k x hx HHB.out.1 (by have := HHB.out.2; omega))
            have HRT : Hid (∀ w' v' ns' h' (D : Duo w w' t p c r v' ns' h' q u ns h), _) := Lib.hid fun w' v' ns' h' D => rtake_in q c r u ns h w' D.ref k x hx hxf.1 HL6.out HHB.out.1 (by have := HHB.out.2; omega)
            have HHE : Hid (0 ≤ h + far x ∧ h + far x ≤ 8 * ((j + 1 : Nat) : Int)) := Lib.hid (by have := HHB.out; have := far_bounds hxf.1; omega)
            rw [hk] at kk1
            clear hin hx hxf hk
            go_wp2_with (first
              | ((with_reducible refine load_op o _ b (off + j * 27) ?_ HR.out ?_); (rfl))
              | ((with_reducible refine store_op o _ _ _ ?_ ?_ ?_ ?_); (rfl); (rfl); (rfl))
              | (go_at_call 14; ((with_reducible refine HTO.out.mono ?_); rintro e w4 ⟨rfl, v4, ho4, ht4⟩; have h13 := ht4.row H13.out HN13.out; have h12 := ht4.row H12.out HN12.out; have h14 := ht4.row H14.out HN14.out; have HX13 := Lib.hid h13; have HNN13 := Lib.hid (ht4.ne (lt_of H13.out) HN13.out); have HNN14 := Lib.hid (ht4.ne (lt_of H14.out) HN14.out); have HD4 := Lib.hid ((HD3.out.turn ho4 ht4).set (cs := na x) (b := wr.heap.size + 1) (by have := HWL.out; omega) HNN13.out (by have := HQL.out; omega) (fun e => by have := HUL.out _ e.symm; omega)); have HY12 := Lib.hid (row_set (ds := na x) h12 (show wr.heap.size ≠ wr.heap.size + 1 by omega)); have HY13 := Lib.hid (setRow_heap _ _ _ (na x) _ _ h13); have HY14 := Lib.hid (row_set (ds := na x) h14 (show wr.heap.size + 1 + 1 ≠ wr.heap.size + 1 by omega)); have gg1 := (op_cell HY12.out).2.1; rw [HHK.out] at gg1; clear h12 h13 h14 ho4 ht4))
              | ((with_reducible refine store_any x _ _ _ (wr.heap.size + 1) ?_ ?_ HX13.out ?_ ?_); (rfl); (rfl); (rfl))
              | (go_at_call 22; ((with_reducible refine (HRT.out _ _ _ _ HD4.out).mono ?_); rintro e w5 ⟨rfl, u5, hr5, hg5, hn5⟩; have h13 := grown_row HY13.out hg5 (by have := HQL.out; omega); have h14 := grown_row HY14.out hg5 (by have := HQL.out; omega); have HX14 := Lib.hid h14; have HD5 := Lib.hid ((HD4.out.turnR hr5 hg5 (.inr hn5)).set (cs := na x) (b := wr.heap.size + 1 + 1) (by have := HWL.out; omega) HNN14.out (by have := HQL.out; omega) (fun e => by have h1 := hn5 _ e.symm; have h2 := lt_of HY14.out; omega)); have HZ13 := Lib.hid (row_set (ds := na x) h13 (show wr.heap.size + 1 ≠ wr.heap.size + 1 + 1 by omega)); have HZ14 := Lib.hid (setRow_heap _ _ _ (na x) _ _ h14); clear h13 h14 hr5 hg5 hn5))
              | ((with_reducible refine store_any x _ _ _ (wr.heap.size + 1 + 1) ?_ ?_ HX14.out ?_ ?_); (rfl); (rfl); (rfl)))
            obtain ⟨w6, hw6⟩ : ∃ w6, w5.setRow (wr.heap.size + 1 + 1) (na x) = w6 := ⟨_, rfl⟩
            rw [hw6] at HD5 HZ13 HZ14 ⊢
            clear hw6
            obtain ⟨t', mm, HTT, hagg, hsize, hld⟩ := namedO
            obtain ⟨adu, capu, hform⟩ := HD5.out.ref.sl.form
            have c9 := HD5.out.ref.c9
            have c10 := HD5.out.ref.c10
            rw [hform] at c9
            have hl1 : ∀ n, (loadCellsFrom ⟨wr.heap.size + 1, 0, none⟩ 0 mm #[]).run Tryd.prog (w6.drewN n) = .ok (na x) (w6.drewN n) := fun n => hld _ _ _ _ (range_grown (range_of HZ13.out) (grown_drewN (grown_refl _ none) n) (by simp))
            have hl2 : ∀ n, (loadCellsFrom ⟨wr.heap.size + 1 + 1, 0, none⟩ 0 mm #[]).run Tryd.prog (w6.drewN n) = .ok (na x) (w6.drewN n) := fun n => hld _ _ _ _ (range_grown (range_of HZ14.out) (grown_drewN (grown_refl _ none) n) (by simp))
            have hqn := neq_self x
            have HLE9 : Hid (∀ n, _) := Lib.hid fun n => own_len (HD5.out.own.grown (grown_drewN (grown_refl _ none) n))
            have HHO9 : Hid (∀ n, _) := Lib.hid fun n => own_hops (HD5.out.own.grown (grown_drewN (grown_refl _ none) n))
            clear hld hform
            go_wp2_with fail
            rw [HTT.out]
            go_quiet (first
              | (go_at_call 17; exact Calls.quiet_of_same ((HLE9.out _).mono fun _ _ he => ⟨he.1, he.2.symm⟩))
              | (go_at_call 15; exact Calls.quiet_of_same ((HHO9.out _).mono fun _ _ he => ⟨he.1, he.2.symm⟩)))
            go_wp2_with fail
            go_roundw
            case rel => exact ⟨j + 1, _, _, _, _, _, _, by omega, by go_num, rfl, HHE.out, HD5.out.grown (grown_drewN (grown_refl _ none) _)⟩
            case measure => simp [intOf]; omega
        · skip
          by_cases e2 : o.kind = 2
          · skip
            have ek0 : (o.kind == 0) = false := by simp; omega
            have ek1 : (o.kind == 1) = false := by simp; omega
            have ek2 : (o.kind == 2) = true := by simp; omega
            clear e0 e1 e2
            by_cases hin : o.i < 0 ∨ (ns.length : Int) ≤ o.i
            · have HTO : Hid (Calls Tryd.prog 16 _ w3 _) := Lib.hid (nat_out t p c r v ns h w3 HD3.out.own.net o.i hin)
              by_cases hneg : o.i < 0
              · skip
                have hdi : decide (0 ≤ o.i) = false := by simp; omega
                clear hin hneg
                go_wp2_with (first
                  | ((with_reducible refine load_op o _ b (off + j * 27) ?_ HR.out ?_); (rfl))
                  | ((with_reducible refine store_op o _ _ _ ?_ ?_ ?_ ?_); (rfl); (rfl); (rfl))
                  | (go_at_call 16; ((with_reducible refine HTO.out.mono ?_); rintro e w4 ⟨rfl, hg4⟩; have h13 := (hg4.block _ (lt_of H13.out) (by simp)).trans H13.out; have h12 := (hg4.block _ (lt_of H12.out) (by simp)).trans H12.out; have h14 := (hg4.block _ (lt_of H14.out) (by simp)).trans H14.out; have HX13 := Lib.hid h13; have HD4 := Lib.hid ((HD3.out.grown hg4).set (cs := na zn) (b := wr.heap.size + 1) (by have := HWL.out; omega) HN13.out (by have := HQL.out; omega) (fun e => by have := HUL.out _ e.symm; omega)); have HY12 := Lib.hid (row_set (ds := na zn) h12 (show wr.heap.size ≠ wr.heap.size + 1 by omega)); have HY13 := Lib.hid (setRow_heap _ _ _ (na zn) _ _ h13); have HY14 := Lib.hid (row_set (ds := na zn) h14 (show wr.heap.size + 1 + 1 ≠ wr.heap.size + 1 by omega)); clear h12 h13 h14 hg4))
                  | ((with_reducible refine store_any zn _ _ _ (wr.heap.size + 1) ?_ ?_ HX13.out ?_ ?_); (rfl); (rfl); (rfl)))
                obtain ⟨w6, hw6⟩ : ∃ w6, w4.setRow (wr.heap.size + 1) (na zn) = w6 := ⟨_, rfl⟩
                rw [hw6] at HD4 HY12 HY13 HY14 ⊢
                clear hw6
                obtain ⟨adv, capv, hform5⟩ := HD4.out.ref.sl.form
                have s9 := HD4.out.ref.c9
                rw [hform5] at s9
                have gg1 := (op_cell HY12.out).2.1
                go_quiet (fail)
                go_wp2_with fail
                clear s9 gg1
                have HD7 := Lib.hid (HD4.out.grown (grown_drewN (grown_refl _ none) nq))
                have HY73 := Lib.hid ((show (w6.drewN nq).heap[wr.heap.size + 1]? = _ from HY13.out))
                have HY74 := Lib.hid ((show (w6.drewN nq).heap[wr.heap.size + 1 + 1]? = _ from HY14.out))
                obtain ⟨w7, hw7⟩ : ∃ w7, w6.drewN nq = w7 := ⟨_, rfl⟩
                rw [hw7] at HD7 HY73 HY74 ⊢
                clear hw7
                have HHE : Hid (0 ≤ h ∧ h ≤ 8 * ((j + 1 : Nat) : Int)) := Lib.hid (by have := HHB.out; omega)
                obtain ⟨t', mm, HTT, hagg, hsize, hld⟩ := namedO
                obtain ⟨adu, capu, hform⟩ := HD7.out.ref.sl.form
                have c9 := HD7.out.ref.c9
                have c10 := HD7.out.ref.c10
                rw [hform] at c9
                have hl1 : ∀ n, (loadCellsFrom ⟨wr.heap.size + 1, 0, none⟩ 0 mm #[]).run Tryd.prog (w7.drewN n) = .ok (na zn) (w7.drewN n) := fun n => hld _ _ _ _ (range_grown (range_of HY73.out) (grown_drewN (grown_refl _ none) n) (by simp))
                have hl2 : ∀ n, (loadCellsFrom ⟨wr.heap.size + 1 + 1, 0, none⟩ 0 mm #[]).run Tryd.prog (w7.drewN n) = .ok (na zn) (w7.drewN n) := fun n => hld _ _ _ _ (range_grown (range_of HY74.out) (grown_drewN (grown_refl _ none) n) (by simp))
                have hqn := neq_self zn
                have HLE9 : Hid (∀ n, _) := Lib.hid fun n => own_len (HD7.out.own.grown (grown_drewN (grown_refl _ none) n))
                have HHO9 : Hid (∀ n, _) := Lib.hid fun n => own_hops (HD7.out.own.grown (grown_drewN (grown_refl _ none) n))
                clear hld hform
                go_wp2_with fail
                rw [HTT.out]
                go_quiet (first
                  | (go_at_call 17; exact Calls.quiet_of_same ((HLE9.out _).mono fun _ _ he => ⟨he.1, he.2.symm⟩))
                  | (go_at_call 15; exact Calls.quiet_of_same ((HHO9.out _).mono fun _ _ he => ⟨he.1, he.2.symm⟩)))
                go_wp2_with fail
                go_roundw
                case rel => exact ⟨j + 1, _, _, _, _, _, _, by omega, by go_num, rfl, HHE.out, HD7.out.grown (grown_drewN (grown_refl _ none) _)⟩
                case measure => simp [intOf]; omega
              · skip
                have hdi : decide (0 ≤ o.i) = true := by simp; omega
                have hdj : decide (o.i < (ns.length : Int)) = false := by simp; omega
                clear hin hneg
                go_wp2_with (first
                  | ((with_reducible refine load_op o _ b (off + j * 27) ?_ HR.out ?_); (rfl))
                  | ((with_reducible refine store_op o _ _ _ ?_ ?_ ?_ ?_); (rfl); (rfl); (rfl))
                  | (go_at_call 16; ((with_reducible refine HTO.out.mono ?_); rintro e w4 ⟨rfl, hg4⟩; have h13 := (hg4.block _ (lt_of H13.out) (by simp)).trans H13.out; have h12 := (hg4.block _ (lt_of H12.out) (by simp)).trans H12.out; have h14 := (hg4.block _ (lt_of H14.out) (by simp)).trans H14.out; have HX13 := Lib.hid h13; have HD4 := Lib.hid ((HD3.out.grown hg4).set (cs := na zn) (b := wr.heap.size + 1) (by have := HWL.out; omega) HN13.out (by have := HQL.out; omega) (fun e => by have := HUL.out _ e.symm; omega)); have HY12 := Lib.hid (row_set (ds := na zn) h12 (show wr.heap.size ≠ wr.heap.size + 1 by omega)); have HY13 := Lib.hid (setRow_heap _ _ _ (na zn) _ _ h13); have HY14 := Lib.hid (row_set (ds := na zn) h14 (show wr.heap.size + 1 + 1 ≠ wr.heap.size + 1 by omega)); clear h12 h13 h14 hg4))
                  | ((with_reducible refine store_any zn _ _ _ (wr.heap.size + 1) ?_ ?_ HX13.out ?_ ?_); (rfl); (rfl); (rfl)))
                obtain ⟨w6, hw6⟩ : ∃ w6, w4.setRow (wr.heap.size + 1) (na zn) = w6 := ⟨_, rfl⟩
                rw [hw6] at HD4 HY12 HY13 HY14 ⊢
                clear hw6
                obtain ⟨adv, capv, hform5⟩ := HD4.out.ref.sl.form
                have s9 := HD4.out.ref.c9
                rw [hform5] at s9
                have gg1 := (op_cell HY12.out).2.1
                go_quiet (fail)
                go_wp2_with fail
                clear s9 gg1
                have HD7 := Lib.hid (HD4.out.grown (grown_drewN (grown_refl _ none) nq))
                have HY73 := Lib.hid ((show (w6.drewN nq).heap[wr.heap.size + 1]? = _ from HY13.out))
                have HY74 := Lib.hid ((show (w6.drewN nq).heap[wr.heap.size + 1 + 1]? = _ from HY14.out))
                obtain ⟨w7, hw7⟩ : ∃ w7, w6.drewN nq = w7 := ⟨_, rfl⟩
                rw [hw7] at HD7 HY73 HY74 ⊢
                clear hw7
                have HHE : Hid (0 ≤ h ∧ h ≤ 8 * ((j + 1 : Nat) : Int)) := Lib.hid (by have := HHB.out; omega)
                obtain ⟨t', mm, HTT, hagg, hsize, hld⟩ := namedO
                obtain ⟨adu, capu, hform⟩ := HD7.out.ref.sl.form
                have c9 := HD7.out.ref.c9
                have c10 := HD7.out.ref.c10
                rw [hform] at c9
                have hl1 : ∀ n, (loadCellsFrom ⟨wr.heap.size + 1, 0, none⟩ 0 mm #[]).run Tryd.prog (w7.drewN n) = .ok (na zn) (w7.drewN n) := fun n => hld _ _ _ _ (range_grown (range_of HY73.out) (grown_drewN (grown_refl _ none) n) (by simp))
                have hl2 : ∀ n, (loadCellsFrom ⟨wr.heap.size + 1 + 1, 0, none⟩ 0 mm #[]).run Tryd.prog (w7.drewN n) = .ok (na zn) (w7.drewN n) := fun n => hld _ _ _ _ (range_grown (range_of HY74.out) (grown_drewN (grown_refl _ none) n) (by simp))
                have hqn := neq_self zn
                have HLE9 : Hid (∀ n, _) := Lib.hid fun n => own_len (HD7.out.own.grown (grown_drewN (grown_refl _ none) n))
                have HHO9 : Hid (∀ n, _) := Lib.hid fun n => own_hops (HD7.out.own.grown (grown_drewN (grown_refl _ none) n))
                clear hld hform
                go_wp2_with fail
                rw [HTT.out]
                go_quiet (first
                  | (go_at_call 17; exact Calls.quiet_of_same ((HLE9.out _).mono fun _ _ he => ⟨he.1, he.2.symm⟩))
                  | (go_at_call 15; exact Calls.quiet_of_same ((HHO9.out _).mono fun _ _ he => ⟨he.1, he.2.symm⟩)))
                go_wp2_with fail
                go_roundw
                case rel => exact ⟨j + 1, _, _, _, _, _, _, by omega, by go_num, rfl, HHE.out, HD7.out.grown (grown_drewN (grown_refl _ none) _)⟩
                case measure => simp [intOf]; omega
            · obtain ⟨k, hk⟩ : ∃ k : Nat, o.i = (k : Int) := ⟨o.i.toNat, by omega⟩
              obtain ⟨x, hx⟩ : ∃ x, ns[k]? = some x := ⟨_, List.getElem?_eq_getElem (by omega)⟩
              have HTO : Hid (Calls Tryd.prog 16 _ w3 _) := Lib.hid (nat_in t p c r v ns h w3 HD3.out.own.net k x hx)
              have HHK := Lib.hid hk
              have HXX := Lib.hid hx
              have hkl : k < ns.length := by omega
              have hdj : decide ((k : Int) < (ns.length : Int)) = true := by simp; omega
              rw [hk] at kk1
              clear hin hx hk
              go_wp2_with (first
                | ((with_reducible refine load_op o _ b (off + j * 27) ?_ HR.out ?_); (rfl))
                | ((with_reducible refine store_op o _ _ _ ?_ ?_ ?_ ?_); (rfl); (rfl); (rfl))
                | (go_at_call 16; ((with_reducible refine HTO.out.mono ?_); rintro e w4 ⟨rfl, hg4⟩; have h13 := (hg4.block _ (lt_of H13.out) (by simp)).trans H13.out; have h12 := (hg4.block _ (lt_of H12.out) (by simp)).trans H12.out; have h14 := (hg4.block _ (lt_of H14.out) (by simp)).trans H14.out; have HX13 := Lib.hid h13; have HD4 := Lib.hid ((HD3.out.grown hg4).set (cs := na x) (b := wr.heap.size + 1) (by have := HWL.out; omega) HN13.out (by have := HQL.out; omega) (fun e => by have := HUL.out _ e.symm; omega)); have HY12 := Lib.hid (row_set (ds := na x) h12 (show wr.heap.size ≠ wr.heap.size + 1 by omega)); have HY13 := Lib.hid (setRow_heap _ _ _ (na x) _ _ h13); have HY14 := Lib.hid (row_set (ds := na x) h14 (show wr.heap.size + 1 + 1 ≠ wr.heap.size + 1 by omega)); clear h12 h13 h14 hg4))
                | ((with_reducible refine store_any x _ _ _ (wr.heap.size + 1) ?_ ?_ HX13.out ?_ ?_); (rfl); (rfl); (rfl)))
              obtain ⟨w6, hw6⟩ : ∃ w6, w4.setRow (wr.heap.size + 1) (na x) = w6 := ⟨_, rfl⟩
              rw [hw6] at HD4 HY12 HY13 HY14 ⊢
              clear hw6
              obtain ⟨adv, capv, hform5⟩ := HD4.out.ref.sl.form
              have s9 := HD4.out.ref.c9
              rw [hform5] at s9
              have gg1 := (op_cell HY12.out).2.1
              rw [HHK.out] at gg1
              go_quiet (fail)
              go_wp2_with fail
              have HD7 := Lib.hid (HD4.out.grown (grown_drewN (grown_refl _ none) nq))
              have HY72 := Lib.hid ((show (w6.drewN nq).heap[wr.heap.size]? = _ from HY12.out))
              have HY73 := Lib.hid ((show (w6.drewN nq).heap[wr.heap.size + 1]? = _ from HY13.out))
              have HY74 := Lib.hid ((show (w6.drewN nq).heap[wr.heap.size + 1 + 1]? = _ from HY14.out))
              obtain ⟨w7, hw7⟩ : ∃ w7, w6.drewN nq = w7 := ⟨_, rfl⟩
              rw [hw7] at HD7 HY72 HY73 HY74 ⊢
              clear hw7 s9 gg1
              obtain ⟨gu, ou, hadu, hqe, hru⟩ := nsl_at (by have := HD7.out.ref.sl; rw [hform5] at this; exact this) k x HXX.out
              clear hqe
              subst hadu
              obtain ⟨t0, m0, HT0, hagg0, hsize0, hsz0, hld0, hst0⟩ := namedLS
              have hsx := hsz0 x
              have HGU : Hid (gu ≠ wr.heap.size + 1 + 1) := Lib.hid (by have := HUL.out gu (by rw [hform5]; rfl); omega)
              have HF : Hid (∀ w', w'.heap[q]? = w7.heap[q]? → w'.heap[gu]? = w7.heap[gu]? → w'.heap[wr.heap.size]? = w7.heap[wr.heap.size]? → (w'.cell? ⟨q, 9, none⟩ = some (.slice (some ⟨gu, ou, none⟩) ns.length capv) ∧ w'.cell? ⟨wr.heap.size, 1, none⟩ = some (.int .i64 (k : Int))) ∧ (loadCellsFrom ⟨gu, ou + k * 24, none⟩ 0 m0 #[]).run Tryd.prog w' = .ok (na x) w') := Lib.hid fun w' e1 e2 e3 => ⟨⟨(World.cell?_of_block (a := ⟨q, 9, none⟩) e1).trans (by have := HD7.out.ref.c9; rw [hform5] at this; exact this), (World.cell?_of_block (a := ⟨wr.heap.size, 1, none⟩) e3).trans (by have := (op_cell HY72.out).2.1; rw [HHK.out] at this; exact this)⟩, hld0 _ _ _ _ (fun i y hy => (World.cell?_of_block (a := ⟨gu, ou + k * 24 + i, none⟩) e2).trans (hru i y hy))⟩
              have hst := hst0 (wr.heap.size + 1 + 1) x w7.drew (there_of HY74.out (na_size zn))
              clear hld0 hst0 hru hsz0
              rw [HT0.out.1, HT0.out.2]
              refine wp_region_held_drew (S := fun w' => (w'.cell? ⟨q, 9, none⟩ = some (.slice (some ⟨gu, ou, none⟩) ns.length capv) ∧ w'.cell? ⟨wr.heap.size, 1, none⟩ = some (.int .i64 (k : Int))) ∧ (loadCellsFrom ⟨gu, ou + k * 24, none⟩ 0 m0 #[]).run Tryd.prog w' = .ok (na x) w') (by kernel_rfl) (HF.out _ rfl rfl rfl) (fun hHeld => ?_)
              refine wpAnyH_take (i := 0) (oi := ⟨some 100, Op.move (Operand.tmp 9), _, _, _, _⟩) (v := ?v9) rfl (by kernel_rfl) (by kernel_rfl) (by kernel_rfl) (fun _ _ _ h => h) (Or.inl ⟨by rfl, ?hy9⟩) (by assumption) ?rest9
              case hy9 => ((intro w0 hSw; obtain ⟨⟨hs1, hs2⟩, hs3⟩ := hSw; go_simp); try (with_reducible rfl))
              try simp only [Act.put, List.setIfInBounds_toArray, List.set_cons_zero, List.set_cons_succ]
              refine wpAnyH_take (i := 1) (oi := ⟨some 101, Op.nilCheck (Operand.tmp 100), _, _, _, _⟩) (v := ?v10) rfl (by kernel_rfl) (by kernel_rfl) (by kernel_rfl) (fun _ _ _ h => h) (Or.inl ⟨by rfl, ?hy10⟩) (by assumption) ?rest10
              case hy10 => ((intro w0 hSw; obtain ⟨⟨hs1, hs2⟩, hs3⟩ := hSw; go_simp); try (with_reducible rfl))
              try simp only [Act.put, List.setIfInBounds_toArray, List.set_cons_zero, List.set_cons_succ]
              refine wpAnyH_take (i := 2) (oi := ⟨some 102, Op.fieldAddr 52 (Operand.tmp 101) 2, _, _, _, _⟩) (v := ?v11) rfl (by kernel_rfl) (by kernel_rfl) (by kernel_rfl) (fun _ _ _ h => h) (Or.inl ⟨by rfl, ?hy11⟩) (by assumption) ?rest11
              case hy11 => ((intro w0 hSw; obtain ⟨⟨hs1, hs2⟩, hs3⟩ := hSw; go_simp); try (with_reducible rfl))
              try simp only [Act.put, List.setIfInBounds_toArray, List.set_cons_zero, List.set_cons_succ]
              refine wpAnyH_take (i := 3) (oi := ⟨some 103, Op.load 50 (Operand.tmp 102), _, _, _, _⟩) (v := ?v12) rfl (by kernel_rfl) (by kernel_rfl) (by kernel_rfl) (fun _ _ _ h => h) (Or.inl ⟨by rfl, ?hy12⟩) (by assumption) ?rest12
              case hy12 => ((intro w0 hSw; obtain ⟨⟨hs1, hs2⟩, hs3⟩ := hSw; go_simp); try (with_reducible rfl))
              try simp only [Act.put, List.setIfInBounds_toArray, List.set_cons_zero, List.set_cons_succ]
              refine wpAnyH_take (i := 4) (oi := ⟨some 104, Op.fieldAddr 49 (Operand.tmp 12) 1, _, _, _, _⟩) (v := ?v13) rfl (by kernel_rfl) (by kernel_rfl) (by kernel_rfl) (fun _ _ _ h => h) (Or.inl ⟨by rfl, ?hy13⟩) (by assumption) ?rest13
              case hy13 => ((intro w0 hSw; obtain ⟨⟨hs1, hs2⟩, hs3⟩ := hSw; go_simp); try (with_reducible rfl))
              try simp only [Act.put, List.setIfInBounds_toArray, List.set_cons_zero, List.set_cons_succ]
              refine wpAnyH_take (i := 5) (oi := ⟨some 105, Op.load 3 (Operand.tmp 104), _, _, _, _⟩) (v := ?v14) rfl (by kernel_rfl) (by kernel_rfl) (by kernel_rfl) (fun _ _ _ h => h) (Or.inl ⟨by rfl, ?hy14⟩) (by assumption) ?rest14
              case hy14 => ((intro w0 hSw; obtain ⟨⟨hs1, hs2⟩, hs3⟩ := hSw; go_simp); try (with_reducible rfl))
              try simp only [Act.put, List.setIfInBounds_toArray, List.set_cons_zero, List.set_cons_succ]
              refine wpAnyH_take (i := 6) (oi := ⟨some 106, Op.indexAddr 50 (Operand.tmp 103) (Operand.tmp 105), _, _, _, _⟩) (v := ?v15) rfl (by kernel_rfl) (by kernel_rfl) (by kernel_rfl) (fun _ _ _ h => h) (Or.inl ⟨by rfl, ?hy15⟩) (by assumption) ?rest15
              case hy15 => ((intro w0 hSw; obtain ⟨⟨hs1, hs2⟩, hs3⟩ := hSw; go_simp); try (with_reducible rfl))
              try simp only [Act.put, List.setIfInBounds_toArray, List.set_cons_zero, List.set_cons_succ]
              refine wpAnyH_take (i := 7) (oi := ⟨some 107, Op.load t0 (Operand.tmp 106), _, _, _, _⟩) (v := ?v16) rfl (by kernel_rfl) (by kernel_rfl) (by kernel_rfl) (fun _ _ _ h => h) (Or.inl ⟨by rfl, ?hy16⟩) (by assumption) ?rest16
              case hy16 => ((intro w0 hSw; obtain ⟨⟨hs1, hs2⟩, hs3⟩ := hSw; go_simp); try (with_reducible rfl))
              try simp only [Act.put, List.setIfInBounds_toArray, List.set_cons_zero, List.set_cons_succ]
              refine wpAnyH_ready (rs := [8]) (by kernel_rfl) (by simp) ?_
              refine AllReadyH.cons (o := ⟨none, Op.store t0 (Operand.tmp 14) (Operand.tmp 107), _, _, _, _⟩) rfl (fun K hK => ?_) AllReadyH.nil
              go_simp
              refine hK.out _ _ (HF.out _ (heap_setCells_other _ _ (show q ≠ wr.heap.size + 1 + 1 by have := HQL.out; omega) _ _ _) (heap_setCells_other _ _ HGU.out _ _ _) (heap_setCells_other _ _ (show wr.heap.size ≠ wr.heap.size + 1 + 1 by omega) _ _ _)) (fun hHeld => ?_)
              clear hK K
              try simp only [Act.put, List.setIfInBounds_toArray, List.set_cons_zero, List.set_cons_succ]
              refine wpAnyH_take (i := 9) (oi := ⟨some 10, Op.assign (Operand.const (Value.int IntKind.i64 0)), _, _, _, _⟩) (v := ?v17) rfl (by kernel_rfl) (by kernel_rfl) (by kernel_rfl) (fun _ _ _ h => h) (Or.inl ⟨by rfl, ?hy17⟩) (by assumption) ?rest17
              case hy17 => ((intro w0 hSw; go_simp); try (with_reducible rfl))
              try simp only [Act.put, List.setIfInBounds_toArray, List.set_cons_zero, List.set_cons_succ]
              refine wpAnyH_done (by kernel_rfl) ?_ _
              have hg8 : w7.drew.grownBy (w7.drew.setCells (wr.heap.size + 1 + 1) 0 (nt x)) (some (wr.heap.size + 1 + 1)) := grown_setCells _ _ _ _
              have HZ13 := Lib.hid ((hg8.block _ (lt_of HY73.out) (by simp)).trans HY73.out)
              have HZ14 := Lib.hid (row_setCells (w := w7.drew) x HY74.out (na_size zn))
              have HD8 : Hid (Duo w (w7.drew.setCells (wr.heap.size + 1 + 1) 0 (nt x)) t p c r v ns h q u ns h) := Lib.hid ⟨(HD7.out.grown (grown_drew (grown_refl _ _))).own.beside hg8 (fun k e => by cases e; have := HWL.out; omega) (fun e => HN14.out.1 (Option.some.inj e).symm) (fun e => HN14.out.2.1 (Option.some.inj e).symm) (fun k hk e => HN14.out.2.2 (by rw [hk, Option.some.inj e])), HD7.out.ref.of_block (hg8.block q HD7.out.ref.lt (by have := HQL.out; intro e; have := Option.some.inj e; omega)) (fun k hk => hg8.block k (HD7.out.ref.sl.lt k hk) (fun e => by have := HUL.out k hk; have := Option.some.inj e; omega)), HD7.out.new, HD7.out.apart⟩
              obtain ⟨w8, hw8⟩ : ∃ w8, w7.drew.setCells (wr.heap.size + 1 + 1) 0 (nt x) = w8 := ⟨_, rfl⟩
              rw [hw8] at HZ13 HZ14 HD8 ⊢
              clear hw8 hg8 hst
              have HHE : Hid (0 ≤ h ∧ h ≤ 8 * ((j + 1 : Nat) : Int)) := Lib.hid (by have := HHB.out; omega)
              obtain ⟨t', mm, HTT, hagg, hsize, hld⟩ := namedO
              obtain ⟨adu, capu, hform⟩ := HD8.out.ref.sl.form
              have c9 := HD8.out.ref.c9
              have c10 := HD8.out.ref.c10
              rw [hform] at c9
              have hl1 : ∀ n, (loadCellsFrom ⟨wr.heap.size + 1, 0, none⟩ 0 mm #[]).run Tryd.prog (w8.drewN n) = .ok (na x) (w8.drewN n) := fun n => hld _ _ _ _ (range_grown (range_of HZ13.out) (grown_drewN (grown_refl _ none) n) (by simp))
              have hl2 : ∀ n, (loadCellsFrom ⟨wr.heap.size + 1 + 1, 0, none⟩ 0 mm #[]).run Tryd.prog (w8.drewN n) = .ok (na x) (w8.drewN n) := fun n => hld _ _ _ _ (range_grown (range_of HZ14.out) (grown_drewN (grown_refl _ none) n) (by simp))
              have hqn := neq_self x
              have HLE9 : Hid (∀ n, _) := Lib.hid fun n => own_len (HD8.out.own.grown (grown_drewN (grown_refl _ none) n))
              have HHO9 : Hid (∀ n, _) := Lib.hid fun n => own_hops (HD8.out.own.grown (grown_drewN (grown_refl _ none) n))
              clear hld hform
              go_wp2_with fail
              rw [HTT.out]
              go_quiet (first
                | (go_at_call 17; exact Calls.quiet_of_same ((HLE9.out _).mono fun _ _ he => ⟨he.1, he.2.symm⟩))
                | (go_at_call 15; exact Calls.quiet_of_same ((HHO9.out _).mono fun _ _ he => ⟨he.1, he.2.symm⟩)))
              go_wp2_with fail
              go_roundw
              case rel => exact ⟨j + 1, _, _, _, _, _, _, by omega, by go_num, rfl, HHE.out, HD8.out.grown (grown_drewN (grown_refl _ none) _)⟩
              case measure => simp [intOf]; omega
          · skip
            by_cases e3 : o.kind = 3
            · skip
              have ek0 : (o.kind == 0) = false := by simp; omega
              have ek1 : (o.kind == 1) = false := by simp; omega
              have ek2 : (o.kind == 2) = false := by simp; omega
              have ek3 : (o.kind == 3) = true := by simp; omega
              clear e0 e1 e2 e3
              have HF : Hid (∀ w', w3.grownBy w' none → w'.cell? ⟨wr.heap.size, 1, none⟩ = some (.int .i64 o.i) ∧ w'.cell? ⟨wr.heap.size, 2, none⟩ = some (.int .i64 o.j)) := Lib.hid fun w' h' => ⟨h'.cell kk1 (by simp), h'.cell kk2 (by simp)⟩
              have HR1 : Hid (∀ w', w3.grownBy w' none → _) := Lib.hid fun w' h' => nroom_any t p c r v ns h w' (HD3.out.grown h').own.net o.i o.j
              have HRR : Hid (∀ w', w3.grownBy w' none → _) := Lib.hid fun w' h' => rroom_any q c r u ns h w' (HD3.out.grown h').ref o.i o.j HR2.out HL6.out
              obtain ⟨z, hz9⟩ : ∃ z, z = roomOf c r ns o.i o.j := ⟨_, rfl⟩
              rw [← hz9] at HR1 HRR
              clear hz9
              go_wp2_with (first
                | ((with_reducible refine load_op o _ b (off + j * 27) ?_ HR.out ?_); (rfl))
                | ((with_reducible refine store_op o _ _ _ ?_ ?_ ?_ ?_); (rfl); (rfl); (rfl)))
              go_region_held3 (fun w' => (w'.cell? ⟨wr.heap.size, 1, none⟩ = some (.int .i64 o.i) ∧ w'.cell? ⟨wr.heap.size, 2, none⟩ = some (.int .i64 o.j)) ∧ w3.grownBy w' none) (first | exact ⟨HF.out _ (grown_refl _ _), grown_refl _ _⟩ | exact ⟨HF.out _ (grown_drew (grown_refl _ _)), grown_drew (grown_refl _ _)⟩ | assumption | exact keepF HF (by assumption) (by assumption) | exact keepF HF (by assumption) (grown_drew (grown_refl _ _))) (first
                | (go_at_call 18; ((refine (HR1.out _ (And.right (by assumption : _ ∧ w3.grownBy _ none))).mono ?_); rintro e w9 ⟨rfl, hg9⟩))
                | (go_at_call 23; ((refine (HRR.out _ (And.right (by assumption : _ ∧ w3.grownBy _ none))).mono ?_); rintro e w10 ⟨rfl, rfl⟩)))
              all_goals
                have HGE : Hid (w3.grownBy w9 none) := Lib.hid (And.right (by assumption : _ ∧ w3.grownBy w9 none))
                have HD9 := Lib.hid (HD3.out.grown HGE.out)
                have HX13 := Lib.hid ((HGE.out.block _ (lt_of H13.out) (by simp)).trans H13.out)
                have HX14 := Lib.hid ((HGE.out.block _ (lt_of H14.out) (by simp)).trans H14.out)
                have HHE : Hid (0 ≤ h ∧ h ≤ 8 * ((j + 1 : Nat) : Int)) := Lib.hid (by have := HHB.out; omega)
                obtain ⟨t', mm, HTT, hagg, hsize, hld⟩ := namedO
                obtain ⟨adu, capu, hform⟩ := HD9.out.ref.sl.form
                have c9 := HD9.out.ref.c9
                have c10 := HD9.out.ref.c10
                rw [hform] at c9
                have hl1 : ∀ n, (loadCellsFrom ⟨wr.heap.size + 1, 0, none⟩ 0 mm #[]).run Tryd.prog (w9.drewN n) = .ok (na zn) (w9.drewN n) := fun n => hld _ _ _ _ (range_grown (range_of HX13.out) (grown_drewN (grown_refl _ none) n) (by simp))
                have hl2 : ∀ n, (loadCellsFrom ⟨wr.heap.size + 1 + 1, 0, none⟩ 0 mm #[]).run Tryd.prog (w9.drewN n) = .ok (na zn) (w9.drewN n) := fun n => hld _ _ _ _ (range_grown (range_of HX14.out) (grown_drewN (grown_refl _ none) n) (by simp))
                have hqn := neq_self zn
                have HLE9 : Hid (∀ n, _) := Lib.hid fun n => own_len (HD9.out.own.grown (grown_drewN (grown_refl _ none) n))
                have HHO9 : Hid (∀ n, _) := Lib.hid fun n => own_hops (HD9.out.own.grown (grown_drewN (grown_refl _ none) n))
                clear hld hform
                go_wp2_with fail
                rw [HTT.out]
                go_quiet (first
                  | (go_at_call 17; exact Calls.quiet_of_same ((HLE9.out _).mono fun _ _ he => ⟨he.1, he.2.symm⟩))
                  | (go_at_call 15; exact Calls.quiet_of_same ((HHO9.out _).mono fun _ _ he => ⟨he.1, he.2.symm⟩)))
                go_wp2_with fail
                go_roundw
                case rel => exact ⟨j + 1, _, _, _, _, _, _, by omega, by go_num, rfl, HHE.out, HD9.out.grown (grown_drewN (grown_refl _ none) _)⟩
                case measure => simp [intOf]; omega
            · skip
              by_cases e4 : o.kind = 4
              · skip
                have ek0 : (o.kind == 0) = false := by simp; omega
                have ek1 : (o.kind == 1) = false := by simp; omega
                have ek2 : (o.kind == 2) = false := by simp; omega
                have ek3 : (o.kind == 3) = false := by simp; omega
                have ek4 : (o.kind == 4) = true := by simp; omega
                clear e0 e1 e2 e3 e4
                by_cases hem : 0 < ns.length
                · obtain ⟨x, hx⟩ : ∃ x, ns[0]? = some x := ⟨_, List.getElem?_eq_getElem hem⟩
                  go_wp2_with (first
                    | ((with_reducible refine load_op o _ b (off + j * 27) ?_ HR.out ?_); (rfl))
                    | ((with_reducible refine store_op o _ _ _ ?_ ?_ ?_ ?_); (rfl); (rfl); (rfl))
                    | (go_at_call 19; ((with_reducible refine (own_copy HD3.out.own).mono ?_); rintro e w4 ⟨t2, p2, v2, rfl, ho4⟩; have HO4 := Lib.hid ho4; clear ho4))
                    | (go_at_call 14; ((with_reducible refine (own_takeI (HD3.out.own.grown HO4.out.old) 0 0 rfl x hx HHB.out.1 (by have := HHB.out.2; omega)).mono ?_); rintro e w5 ⟨rfl, v5, ho5, ht5⟩; have HT5 := Lib.hid ht5; clear ho5 ht5)))
                  have HD5 := Lib.hid (HD3.out.copy HO4.out HT5.out)
                  have HX13 := Lib.hid (HT5.out.row ((HO4.out.old.block _ (lt_of H13.out) (by simp)).trans H13.out) HN13.out)
                  have HX14 := Lib.hid (HT5.out.row ((HO4.out.old.block _ (lt_of H14.out) (by simp)).trans H14.out) HN14.out)
                  have HHE : Hid (0 ≤ h ∧ h ≤ 8 * ((j + 1 : Nat) : Int)) := Lib.hid (by have := HHB.out; omega)
                  obtain ⟨t', mm, HTT, hagg, hsize, hld⟩ := namedO
                  obtain ⟨adu, capu, hform⟩ := HD5.out.ref.sl.form
                  have c9 := HD5.out.ref.c9
                  have c10 := HD5.out.ref.c10
                  rw [hform] at c9
                  have hl1 : ∀ n, (loadCellsFrom ⟨wr.heap.size + 1, 0, none⟩ 0 mm #[]).run Tryd.prog (w5.drewN n) = .ok (na zn) (w5.drewN n) := fun n => hld _ _ _ _ (range_grown (range_of HX13.out) (grown_drewN (grown_refl _ none) n) (by simp))
                  have hl2 : ∀ n, (loadCellsFrom ⟨wr.heap.size + 1 + 1, 0, none⟩ 0 mm #[]).run Tryd.prog (w5.drewN n) = .ok (na zn) (w5.drewN n) := fun n => hld _ _ _ _ (range_grown (range_of HX14.out) (grown_drewN (grown_refl _ none) n) (by simp))
                  have hqn := neq_self zn
                  have HLE9 : Hid (∀ n, _) := Lib.hid fun n => own_len (HD5.out.own.grown (grown_drewN (grown_refl _ none) n))
                  have HHO9 : Hid (∀ n, _) := Lib.hid fun n => own_hops (HD5.out.own.grown (grown_drewN (grown_refl _ none) n))
                  clear hld hform
                  go_wp2_with fail
                  rw [HTT.out]
                  go_quiet (first
                    | (go_at_call 17; exact Calls.quiet_of_same ((HLE9.out _).mono fun _ _ he => ⟨he.1, he.2.symm⟩))
                    | (go_at_call 15; exact Calls.quiet_of_same ((HHO9.out _).mono fun _ _ he => ⟨he.1, he.2.symm⟩)))
                  go_wp2_with fail
                  go_roundw
                  case rel => exact ⟨j + 1, _, _, _, _, _, _, by omega, by go_num, rfl, HHE.out, HD5.out.grown (grown_drewN (grown_refl _ none) _)⟩
                  case measure => simp [intOf]; omega
                · skip
                  go_wp2_with (first
                    | ((with_reducible refine load_op o _ b (off + j * 27) ?_ HR.out ?_); (rfl))
                    | ((with_reducible refine store_op o _ _ _ ?_ ?_ ?_ ?_); (rfl); (rfl); (rfl))
                    | (go_at_call 19; ((with_reducible refine (own_copy HD3.out.own).mono ?_); rintro e w4 ⟨t2, p2, v2, rfl, ho4⟩; have HO4 := Lib.hid ho4; clear ho4))
                    | (go_at_call 14; ((with_reducible refine (own_take_out (HD3.out.own.grown HO4.out.old) 0 (.inr (by omega))).mono ?_); rintro e w5 ⟨rfl, hg5⟩; have HT5 := Lib.hid (NTurn.of_grown t p v hg5); clear hg5)))
                  have HD5 := Lib.hid (HD3.out.copy HO4.out HT5.out)
                  have HX13 := Lib.hid (HT5.out.row ((HO4.out.old.block _ (lt_of H13.out) (by simp)).trans H13.out) HN13.out)
                  have HX14 := Lib.hid (HT5.out.row ((HO4.out.old.block _ (lt_of H14.out) (by simp)).trans H14.out) HN14.out)
                  have HHE : Hid (0 ≤ h ∧ h ≤ 8 * ((j + 1 : Nat) : Int)) := Lib.hid (by have := HHB.out; omega)
                  obtain ⟨t', mm, HTT, hagg, hsize, hld⟩ := namedO
                  obtain ⟨adu, capu, hform⟩ := HD5.out.ref.sl.form
                  have c9 := HD5.out.ref.c9
                  have c10 := HD5.out.ref.c10
                  rw [hform] at c9
                  have hl1 : ∀ n, (loadCellsFrom ⟨wr.heap.size + 1, 0, none⟩ 0 mm #[]).run Tryd.prog (w5.drewN n) = .ok (na zn) (w5.drewN n) := fun n => hld _ _ _ _ (range_grown (range_of HX13.out) (grown_drewN (grown_refl _ none) n) (by simp))
                  have hl2 : ∀ n, (loadCellsFrom ⟨wr.heap.size + 1 + 1, 0, none⟩ 0 mm #[]).run Tryd.prog (w5.drewN n) = .ok (na zn) (w5.drewN n) := fun n => hld _ _ _ _ (range_grown (range_of HX14.out) (grown_drewN (grown_refl _ none) n) (by simp))
                  have hqn := neq_self zn
                  have HLE9 : Hid (∀ n, _) := Lib.hid fun n => own_len (HD5.out.own.grown (grown_drewN (grown_refl _ none) n))
                  have HHO9 : Hid (∀ n, _) := Lib.hid fun n => own_hops (HD5.out.own.grown (grown_drewN (grown_refl _ none) n))
                  clear hld hform
                  go_wp2_with fail
                  rw [HTT.out]
                  go_quiet (first
                    | (go_at_call 17; exact Calls.quiet_of_same ((HLE9.out _).mono fun _ _ he => ⟨he.1, he.2.symm⟩))
                    | (go_at_call 15; exact Calls.quiet_of_same ((HHO9.out _).mono fun _ _ he => ⟨he.1, he.2.symm⟩)))
                  go_wp2_with fail
                  go_roundw
                  case rel => exact ⟨j + 1, _, _, _, _, _, _, by omega, by go_num, rfl, HHE.out, HD5.out.grown (grown_drewN (grown_refl _ none) _)⟩
                  case measure => simp [intOf]; omega
              · skip
                have ek0 : (o.kind == 0) = false := by simp; omega
                have ek1 : (o.kind == 1) = false := by simp; omega
                have ek2 : (o.kind == 2) = false := by simp; omega
                have ek3 : (o.kind == 3) = false := by simp; omega
                have ek4 : (o.kind == 4) = false := by simp; omega
                clear e0 e1 e2 e3 e4
                go_wp2_with (first
                  | ((with_reducible refine load_op o _ b (off + j * 27) ?_ HR.out ?_); (rfl))
                  | ((with_reducible refine store_op o _ _ _ ?_ ?_ ?_ ?_); (rfl); (rfl); (rfl)))
                have HHE : Hid (0 ≤ h ∧ h ≤ 8 * ((j + 1 : Nat) : Int)) := Lib.hid (by have := HHB.out; omega)
                obtain ⟨t', mm, HTT, hagg, hsize, hld⟩ := namedO
                obtain ⟨adu, capu, hform⟩ := HD3.out.ref.sl.form
                have c9 := HD3.out.ref.c9
                have c10 := HD3.out.ref.c10
                rw [hform] at c9
                have hl1 : ∀ n, (loadCellsFrom ⟨wr.heap.size + 1, 0, none⟩ 0 mm #[]).run Tryd.prog (w3.drewN n) = .ok (na zn) (w3.drewN n) := fun n => hld _ _ _ _ (range_grown (range_of H13.out) (grown_drewN (grown_refl _ none) n) (by simp))
                have hl2 : ∀ n, (loadCellsFrom ⟨wr.heap.size + 1 + 1, 0, none⟩ 0 mm #[]).run Tryd.prog (w3.drewN n) = .ok (na zn) (w3.drewN n) := fun n => hld _ _ _ _ (range_grown (range_of H14.out) (grown_drewN (grown_refl _ none) n) (by simp))
                have hqn := neq_self zn
                have HLE9 : Hid (∀ n, _) := Lib.hid fun n => own_len (HD3.out.own.grown (grown_drewN (grown_refl _ none) n))
                have HHO9 : Hid (∀ n, _) := Lib.hid fun n => own_hops (HD3.out.own.grown (grown_drewN (grown_refl _ none) n))
                clear hld hform
                go_wp2_with fail
                rw [HTT.out]
                go_quiet (first
                  | (go_at_call 17; exact Calls.quiet_of_same ((HLE9.out _).mono fun _ _ he => ⟨he.1, he.2.symm⟩))
                  | (go_at_call 15; exact Calls.quiet_of_same ((HHO9.out _).mono fun _ _ he => ⟨he.1, he.2.symm⟩)))
                go_wp2_with fail
                go_roundw
                case rel => exact ⟨j + 1, _, _, _, _, _, _, by omega, by go_num, rfl, HHE.out, HD3.out.grown (grown_drewN (grown_refl _ none) _)⟩
                case measure => simp [intOf]; omega
    · skip
      have HBE : Hid ((wr.alloc (.cells #[.pointer (some ⟨t, 0, none⟩)] 22)).cell? ⟨wr.heap.size, 0, none⟩ = some (.pointer (some ⟨t, 0, none⟩))) := Lib.hid ((cell_of_row _ _ _ _ _ _ (heap_alloc_new _ _)).trans rfl)
      obtain ⟨adu, capu, hform⟩ := HD.out.ref.sl.form
      have HALL : Hid (∀ w', wr.grownBy w' none → Calls Tryd.prog 26 #[.pointer (some ⟨t, 0, none⟩)] w' fun e w'' => e = .returned (.func (.func 46) #[] #[.pointer (some ⟨w'.heap.size, 0, none⟩)]) ∧ w'' = w'.alloc (.cells #[.pointer (some ⟨t, 0, none⟩)] 22)) := Lib.hid fun w' _ => nall_any t w'
      have HCOL : Hid (∀ w' B, wr.grownBy w' none → w'.cell? ⟨B, 0, none⟩ = some (.pointer (some ⟨t, 0, none⟩)) → Calls Tryd.prog 25 #[.func (.func 46) #[] #[.pointer (some ⟨B, 0, none⟩)]] w' _) := Lib.hid fun w' B hg hc => collect_any t p r c v ns h B w' (HD.out.own.grown hg).net hc
      have HF : Hid (∀ w', wr.grownBy w' none → w'.cell? ⟨q, 9, none⟩ = some (.slice adu ns.length capu)) := Lib.hid fun w' hg => by have := (HD.out.ref.grown hg).c9; rw [hform] at this; exact this
      have HUS : Hid (∀ w', wr.grownBy w' none → NSl w' (.slice adu ns.length capu) ns) := Lib.hid fun w' hg => by have := (HD.out.ref.grown hg).sl; rw [hform] at this; exact this
      clear hform
      go_wp2_with fail
      go_region_held3 (fun w' => w'.cell? ⟨q, 9, none⟩ = some (.slice adu ns.length capu) ∧ wr.grownBy w' none) (first | exact ⟨HF.out _ (grown_refl _ _), grown_refl _ _⟩ | exact ⟨HF.out _ (grown_drew (grown_refl _ _)), grown_drew (grown_refl _ _)⟩ | assumption | exact keepF HF (by assumption) (by assumption) | exact keepF HF (by assumption) (grown_drew (grown_refl _ _)) | exact keepF HF (by assumption) (grown_alloc (grown_refl _ _) _)) (first
        | (go_at_call 26; ((refine (HALL.out _ (And.right (by assumption : _ ∧ wr.grownBy _ none))).mono ?_); rintro e wf ⟨rfl, rfl⟩))
        | (go_at_call 25; ((refine (HCOL.out _ _ (And.right (by assumption : _ ∧ wr.grownBy _ none)) (by exact (cell_of_row _ _ _ _ _ _ (heap_alloc_new wr (.cells #[.pointer (some ⟨t, 0, none⟩)] 22))).trans rfl)).mono ?_); rintro e wg ⟨ue, rfl, hu1, hu2, hu3⟩; have HUE := Lib.hid hu1; clear hu1 hu2))
        | (go_at_call 24; ((refine (equal_yes _ _ ns _ HUE.out (HUS.out _ (And.right (by assumption : _ ∧ wr.grownBy _ none))) HL6.out).mono ?_); rintro e wh ⟨rfl, hgh⟩))
        | (go_at_call 11; ((refine (HW.out _ (grown_trans HD.out.own.old (And.right (by assumption : _ ∧ wr.grownBy _ none)))).mono ?_); rintro e wi ⟨rfl, hgi⟩)))
      all_goals
        have HGE : Hid (wr.grownBy wi none) := Lib.hid (And.right (by assumption : _ ∧ wr.grownBy wi none))
        go_wp2_with fail
        go_ret
        exact ⟨rfl, grown_trans HD.out.own.old HGE.out⟩
theorem plays_true (c : Cfg) (room : Int) (os : List OpX) (ad : Option Addr) (len cap : Nat) (w : World) (hT : Tab w) (hK : TabK w) (hlen : len = os.length) (hat : OpsAt w ad os) :
    Calls Tryd.prog 4 #[.agg c.cells, .int .i64 room, .slice ad len cap] w fun e w' => e = .returned (.bool true) ∧ w.grownBy w' none := by
  by_cases h : 300 < len
  · exact plays_long c room ad len cap w hT hK h
  · by_cases hm : c.may ∧ 1 ≤ room ∧ room ≤ 1024
    · obtain ⟨hm, h1, h2⟩ := hm
      obtain ⟨r, rfl⟩ : ∃ r : Nat, room = (r : Int) := ⟨room.toNat, by omega⟩
      exact plays_some c r os ad len cap w hT hK hlen hat (by omega) hm (by omega) (by omega)
    · exact plays_no c room ad len cap w hT hK (by omega) hm
end Go.Proofs.YtoemkhmbeiindaaDoor.tt
