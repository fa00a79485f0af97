/-
  The law BacksCopies returns true: the walk. Condition: the table of bounds lies in its variable as the program's text has it; that the scripts lie where the arguments say.
-/
import Derived.Test.YtoifeinkaaclmaaDoorBkK
namespace Go.Proofs.YtoifeinkaaclmaaDoor.bk
open Go Go.ChangeShapes Go.WideShapes Go.ChangeAt Go.RowKit
open Go.Proofs.YtoifeinkaaclmaaDoor.tt (Cfg Tab CfgAt cfg_at hb_bounds data_yes eql29k U zd row tyne add_lit lt_of range_grown grown_setCells grown_setRow grown_new grown_drewN below_of grown_alloc grown_refl grown_trans grown_drew Sl Pool Turn Next flat)
set_option linter.unusedVariables false
set_option maxRecDepth 1000000

/-- The row that a script puts. -/
def dy (x : Int) : List Int := [x, 0, 0, 0, 0, 0, 0, 0, 0, 0, 0, 0, 0, 0, 0, 0]
theorem dy_len (x : Int) : (dy x).length = 16 := rfl
/-- What a script's call leaves; a script. -/
def step (n : Int) (m : Nat) (ns : List Bk) (o : OpX) : List Bk := if o.kd = 0 then puts n m ns o.b (dy o.x) (dy_len o.x) else if o.kd = 2 then kills ns o.b else if o.kd = 3 then rem ns o.b else ns
def plays (n : Int) (m : Nat) (ns : List Bk) (os : List OpX) : List Bk := os.foldl (step n m) ns
theorem plays_take (n : Int) (m : Nat) (ns : List Bk) (os : List OpX) (k : Nat) (o : OpX) (h : os[k]? = some o) : plays n m ns (os.take (k + 1)) = step n m (plays n m ns (os.take k)) o := by
  have : os.take (k + 1) = os.take k ++ [o] := by rw [List.take_add_one, h]; rfl
  unfold plays
  rw [this, List.foldl_append]; rfl
theorem puty {w w1 : World} {t p : Nat} {v : Value} {n : Int} {m : Nat} {ns : List Bk} (h : Own w w1 t p v n m ns) (b x : Int) : Calls Tryd.prog 11 #[.pointer (some ⟨t, 0, none⟩), .int .i64 b, .agg #[.int .u32 x, .int .u32 0, .int .u32 0, .int .u32 0, .int .u32 0, .int .u32 0, .int .u32 0, .int .u32 0, .int .u32 0, .int .u32 0, .int .u32 0, .int .u32 0, .int .u32 0, .int .u32 0, .int .u32 0, .int .u32 0]] w1 fun e w2 => e = .returned (.int .i64 (putE n m ns b)) ∧ ∃ v', Own w w2 t p v' n m (puts n m ns b (dy x) (dy_len x)) ∧ Turn w1 w2 p v v' := own_put h b (dy x) (dy_len x)
/-- Two slices that have no block in common. -/
def Ap (v u : Value) : Prop := ∀ g, v.ownBlock = some g → u.ownBlock ≠ some g
theorem Ap.symm {v u : Value} (h : Ap v u) : Ap u v := fun g h1 h2 => h g h2 h1
theorem Own.keep {w w1 w2 : World} {t p t2 p2 : Nat} {v v' v2 : Value} {n n2 : Int} {m m2 : Nat} {ns ns2 : List Bk} (h2 : Own w w1 t2 p2 v2 n2 m2 ns2) (h : Own w w1 t p v n m ns) (hT : Turn w1 w2 p v v') (hp : p2 ≠ p) (hv : Ap v v2) : Own w w2 t2 p2 v2 n2 m2 ns2 ∧ Ap v' v2 := by
  refine ⟨⟨h2.bk.other h.bk hT hp ?_, old_turn h2.old h.hp h.hv hT, h2.hp, h2.hv⟩, fun g hg e => ?_⟩
  · cases hb : v2.ownBlock with
    | none => exact .inl rfl
    | some g => exact .inr fun e => hv g e.symm hb
  · rcases hT.next with h3 | h3
    · exact hv g (h3 ▸ hg) e
    · have := h3 g hg
      have := h2.bk.pool.sl.lt g e
      omega
theorem eqB (a : Bool) : (a != a) = false := by cases a <;> rfl
set_option maxHeartbeats 4000000 in
theorem do_any {w0 w : World} {t p : Nat} {v : Value} {n : Int} {m : Nat} {ns : List Bk} (H : Own w0 w t p v n m ns) (os : List OpX) (ad : Option Addr) (len cap : Nat) (hlen : len = os.length) (h : len ≤ 200) (hat : ∀ w', w0.grownBy w' none → OpsAt w' ad os) : Calls Tryd.prog 26 #[.pointer (some ⟨t, 0, none⟩), .slice ad len cap] w fun e w' => (∃ u, e = .returned u) ∧ ∃ v', Own w0 w' t p v' n m (plays n m ns os) ∧ Turn w w' p v v' := by
  have HH := Lib.hid H
  have HLEN := Lib.hid hlen
  have HAT := Lib.hid hat
  clear H hlen hat
  go_enter Tryd.func26, Tryd.ntmps26
  go_wp2_with fail
  go_loopw [8] (fun i wr => ∃ (j : Nat) (v' : Value), j ≤ len ∧ i = .int .i64 (j : Int) ∧ Own w0 wr t p v' n m (plays n m ns (os.take j)) ∧ Turn w wr p v v') (fun i _ => len - (intOf i).toNat)
  case atStart => exact ⟨0, v, Nat.zero_le _, rfl, HH.out, Turn.refl _ _ _⟩
  case round =>
    obtain ⟨j, v1, hj, rfl, ho, ht⟩ := hrel
    have HO := Lib.hid ho
    have HT := Lib.hid ht
    have hj200 : j ≤ 200 := by omega
    clear ho ht
    by_cases hlt : j < len
    · obtain ⟨⟨kd, b, x⟩, hq⟩ : ∃ q, os[j]? = some q := ⟨_, List.getElem?_eq_getElem (by have := HLEN.out; omega)⟩
      obtain ⟨bp, op, rfl, hr0, hr1, hr2⟩ := HAT.out _ HO.out.old j _ hq
      have hpl := plays_take n m ns os j _ hq
      obtain ⟨NS, hNS⟩ : ∃ NS, NS = plays n m ns (os.take j) := ⟨_, rfl⟩
      rw [← hNS] at HO hpl
      have HPL := Lib.hid hpl
      clear hq hpl hNS
      dsimp only at hr0 hr1 hr2
      by_cases hk0 : kd = 0
      · subst hk0
        have HX2 : Hid (wr.grownBy (wr.alloc (.cells #[.int .i64 0, .int .i64 b, .int .u32 x] 44)) none) := Lib.hid (grown_alloc (grown_refl _ _) _)
        have HO2 := Lib.hid (HO.out.grown HX2.out)
        have HST : Hid (step n m NS ⟨0, b, x⟩ = puts n m NS b (dy x) (dy_len x)) := Lib.hid (by unfold step; simp )
        have HCL := Lib.hid (puty HO2.out b x)
        go_wp2_with (go_at_call 11; ((with_reducible refine HCL.out.mono ?_); rintro e w4 ⟨rfl, v4, ho4, ht4⟩; have HO4 := Lib.hid ho4; have HT4 := Lib.hid ((HT.out.trans (Turn.of_grown p v1 HX2.out)).trans ht4); clear ho4 ht4))
        go_roundw
        case rel => exact ⟨j + 1, v4, by omega, by go_num, by rw [HPL.out, HST.out]; exact HO4.out, HT4.out⟩
        case measure => simp [intOf]; omega
      · by_cases hk2 : kd = 2
        · subst hk2
          clear hk0
          have HX2 : Hid (wr.grownBy (wr.alloc (.cells #[.int .i64 2, .int .i64 b, .int .u32 x] 44)) none) := Lib.hid (grown_alloc (grown_refl _ _) _)
          have HO2 := Lib.hid (HO.out.grown HX2.out)
          have HST : Hid (step n m NS ⟨2, b, x⟩ = kills NS b) := Lib.hid (by unfold step; simp )
          have HCL := Lib.hid (own_kill HO2.out b)
          go_wp2_with (go_at_call 12; ((with_reducible refine HCL.out.mono ?_); rintro e w4 ⟨rfl, v4, ho4, ht4⟩; have HO4 := Lib.hid ho4; have HT4 := Lib.hid ((HT.out.trans (Turn.of_grown p v1 HX2.out)).trans ht4); clear ho4 ht4))
          go_roundw
          case rel => exact ⟨j + 1, v4, by omega, by go_num, by rw [HPL.out, HST.out]; exact HO4.out, HT4.out⟩
          case measure => simp [intOf]; omega
        · by_cases hk3 : kd = 3
          · subst hk3
            clear hk0 hk2
            have HX2 : Hid (wr.grownBy (wr.alloc (.cells #[.int .i64 3, .int .i64 b, .int .u32 x] 44)) none) := Lib.hid (grown_alloc (grown_refl _ _) _)
            have HO2 := Lib.hid (HO.out.grown HX2.out)
            have HST : Hid (step n m NS ⟨3, b, x⟩ = rem NS b) := Lib.hid (by unfold step; simp )
            have HCL := Lib.hid (own_drop HO2.out b)
            go_wp2_with (go_at_call 14; ((with_reducible refine HCL.out.mono ?_); rintro e w4 ⟨rfl, v4, ho4, ht4⟩; have HO4 := Lib.hid ho4; have HT4 := Lib.hid ((HT.out.trans (Turn.of_grown p v1 HX2.out)).trans ht4); clear ho4 ht4))
            go_roundw
            case rel => exact ⟨j + 1, v4, by omega, by go_num, by rw [HPL.out, HST.out]; exact HO4.out, HT4.out⟩
            case measure => simp [intOf]; omega
          · have HX2 : Hid (wr.grownBy (wr.alloc (.cells #[.int .i64 kd, .int .i64 b, .int .u32 x] 44)) none) := Lib.hid (grown_alloc (grown_refl _ _) _)
            have HO2 := Lib.hid (HO.out.grown HX2.out)
            have HST : Hid (step n m NS ⟨kd, b, x⟩ = NS) := Lib.hid (by unfold step; simp [hk0, hk2, hk3])
            have k0 : (kd == 0) = false := by simpa using hk0
            have k2 : (kd == 2) = false := by simpa using hk2
            have k3 : (kd == 3) = false := by simpa using hk3
            clear hk0 hk2 hk3
            go_wp2_with fail
            go_roundw
            case rel => exact ⟨j + 1, v1, by omega, by go_num, by rw [HPL.out, HST.out]; exact HO2.out, HT.out.trans (Turn.of_grown p v1 HX2.out)⟩
            case measure => simp [intOf]; omega
    · have hjl : j = len := by omega
      go_wp2
      refine bodyPost_end (results_none rfl _ _ _) rfl ?_
      refine ⟨⟨_, rfl⟩, v1, ?_, HT.out⟩
      have := HO.out
      rw [List.take_of_length_le (by have := HLEN.out; omega)] at this
      exact this
set_option maxHeartbeats 2000000 in
theorem copies_long1 (c : Cfg) (ad adp : Option Addr) (len cap lenp capp : Nat) (w : World) (hT : Tab w) (h : 200 < len) : Calls Tryd.prog 7 #[.agg c.cells, .slice ad len cap, .slice adp lenp capp] w fun e w' => e = .returned (.bool true) ∧ w.grownBy w' none := by
  have hd : decide ((200 : Int) < (len : Int)) = true := by simp; omega
  have hg0 : w.grownBy (w.alloc (.cells c.cells 27)) none := grown_alloc (grown_refl _ _) _
  have HW := Lib.hid (works_any _ (hT.grown hg0))
  have HG0 := Lib.hid hg0
  clear hT hg0 h
  unfold Cfg.cells at *
  go_enter Tryd.func7, Tryd.ntmps7
  go_wp2_with (go_at_call 10; ((with_reducible refine HW.out.mono ?_); rintro e w3 ⟨rfl, hg3⟩; have HG3 := Lib.hid hg3; clear hg3))
  go_ret
  exact ⟨rfl, grown_trans HG0.out HG3.out⟩
set_option maxHeartbeats 2000000 in
theorem copies_long2 (c : Cfg) (ad adp : Option Addr) (len cap lenp capp : Nat) (w : World) (hT : Tab w) (h0 : len ≤ 200) (h : 200 < lenp) : Calls Tryd.prog 7 #[.agg c.cells, .slice ad len cap, .slice adp lenp capp] w fun e w' => e = .returned (.bool true) ∧ w.grownBy w' none := by
  have hd0 : decide ((200 : Int) < (len : Int)) = false := by simp; omega
  have hd : decide ((200 : Int) < (lenp : Int)) = true := by simp; omega
  have hg0 : w.grownBy (w.alloc (.cells c.cells 27)) none := grown_alloc (grown_refl _ _) _
  have HW := Lib.hid (works_any _ (hT.grown hg0))
  have HG0 := Lib.hid hg0
  clear hT hg0 h h0
  unfold Cfg.cells at *
  go_enter Tryd.func7, Tryd.ntmps7
  go_wp2_with (go_at_call 10; ((with_reducible refine HW.out.mono ?_); rintro e w3 ⟨rfl, hg3⟩; have HG3 := Lib.hid hg3; clear hg3))
  go_ret
  exact ⟨rfl, grown_trans HG0.out HG3.out⟩
set_option maxHeartbeats 2000000 in
theorem copies_no (c : Cfg) (ad adp : Option Addr) (len cap lenp capp : Nat) (w : World) (hT : Tab w) (h0 : len ≤ 200) (h : lenp ≤ 200) (hm : ¬ c.may) : Calls Tryd.prog 7 #[.agg c.cells, .slice ad len cap, .slice adp lenp capp] w fun e w' => e = .returned (.bool true) ∧ w.grownBy w' none := by
  have hd0 : decide ((200 : Int) < (len : Int)) = false := by simp; omega
  have hd : decide ((200 : Int) < (lenp : Int)) = false := by simp; omega
  have hg0 : w.grownBy (w.alloc (.cells c.cells 27)) none := grown_alloc (grown_refl _ _) _
  have HN := Lib.hid (new_no c _ (hT.grown hg0) hm)
  have HW : Hid (∀ w', w.grownBy w' none → _) := Lib.hid (fun w' h => works_any w' (hT.grown h))
  obtain ⟨c0, c1, c2, c3, c4, c5, c6, c7⟩ := cfg_at w c
  have HG0 := Lib.hid hg0
  clear hT h hm hg0 h0
  unfold Cfg.cells at HN HG0 c0 c1 c2 c3 c4 c5 c6 c7 ⊢
  go_enter Tryd.func7, Tryd.ntmps7
  go_wp2_with (first
    | (go_at_call 8; ((with_reducible refine HN.out.mono ?_); rintro e w2 ⟨rfl, hg2⟩; have HG2 := Lib.hid (grown_trans HG0.out hg2); clear hg2))
    | (go_at_call 10; ((with_reducible refine (HW.out _ HG2.out).mono ?_); rintro e w3 ⟨rfl, hg3⟩; have HG3 := Lib.hid (grown_trans HG2.out hg3); clear hg3)))
  go_ret
  exact ⟨rfl, HG3.out⟩
set_option maxHeartbeats 2000000 in
theorem copies_some (c : Cfg) (ad adp : Option Addr) (len cap lenp capp : Nat) (w : World) (hT : Tab w) (os ps : List OpX) (hlen : len = os.length) (hat : OpsAt w ad os) (hlenp : lenp = ps.length) (hatp : OpsAt w adp ps) (h0 : len ≤ 200) (h : lenp ≤ 200) (hm : c.may) : Calls Tryd.prog 7 #[.agg c.cells, .slice ad len cap, .slice adp lenp capp] w fun e w' => e = .returned (.bool true) ∧ w.grownBy w' none := by
  obtain ⟨m, hba, hm1, hm4⟩ := may_ba hm
  obtain ⟨N, hN⟩ : ∃ N : Nat, c.data = (N : Int) := ⟨c.data.toNat, by have := cfg_data hm; omega⟩
  have hd0 : decide ((200 : Int) < (len : Int)) = false := by simp; omega
  have hd : decide ((200 : Int) < (lenp : Int)) = false := by simp; omega
  have hg0 : w.grownBy (w.alloc (.cells c.cells 27)) none := grown_alloc (grown_refl _ _) _
  have HN := Lib.hid (own_new c m _ (hT.grown hg0) hm hba hm1 (by omega))
  have HW : Hid (∀ w', w.grownBy w' none → _) := Lib.hid (fun w' h => works_any w' (hT.grown h))
  have HDA : Hid (∀ w', w.grownBy w' none → _) := Lib.hid (fun w' h => data_yes c w' (hT.grown h) hm)
  rw [hN] at HDA
  have HNN : Hid (N ≤ 256) := Lib.hid (by have := cfg_data hm; omega)
  obtain ⟨c0, c1, c2, c3, c4, c5, c6, c7⟩ := cfg_at w c
  have HCA := Lib.hid (cfg_at w c)
  have HG0 := Lib.hid hg0
  have HLEN := Lib.hid hlen
  have HLENP := Lib.hid hlenp
  have L0 := Lib.hid h0
  have L1 := Lib.hid h
  have HAT := Lib.hid (fun w' (h : w.grownBy w' none) => hat.grown h)
  have HATP := Lib.hid (fun w' (h : w.grownBy w' none) => hatp.grown h)
  clear hT hm hba hm1 hm4 hg0 hlen hlenp hat hatp h h0 hN
  unfold Cfg.cells at HN HG0 HDA HCA c0 c1 c2 c3 c4 c5 c6 c7 ⊢
  obtain ⟨wb, hwb⟩ : ∃ wb, w.alloc (.cells #[.int .i64 c.co, .int .i64 c.se, .int .i64 c.wa, .int .i64 c.bl, .int .i64 c.lo, .int .i64 c.ba, .int .i64 c.ne, .int .i64 c.tr] 27) = wb := ⟨_, rfl⟩
  have HATb := Lib.hid fun (w' : World) (h : wb.grownBy w' none) => HAT.out w' (grown_trans HG0.out (by rw [hwb]; exact h))
  have HATPb := Lib.hid fun (w' : World) (h : wb.grownBy w' none) => HATP.out w' (grown_trans HG0.out (by rw [hwb]; exact h))
  have HWb := Lib.hid fun (w' : World) (h : wb.grownBy w' none) => HW.out w' (grown_trans HG0.out (by rw [hwb]; exact h))
  have HDAb := Lib.hid fun (w' : World) (h : wb.grownBy w' none) => HDA.out w' (grown_trans HG0.out (by rw [hwb]; exact h))
  have HFIN := Lib.hid fun (w' : World) (h : wb.grownBy w' none) => grown_trans HG0.out (by rw [hwb]; exact h)
  rw [hwb] at HCA
  have HWB := Lib.hid hwb
  clear hwb HG0 HAT HATP HW HDA
  go_enter Tryd.func7, Tryd.ntmps7
  go_wp2_with (first
    | (go_at_call 8; ((with_reducible refine HN.out.mono ?_); rintro e w2 ⟨t, p, rfl, ho2⟩; (rw [HWB.out] at ho2); have H2 := Lib.hid ho2; clear ho2 c0 c1 c2 c3 c4 c5 c6 c7))
    | (go_at_call 26; ((with_reducible refine (do_any H2.out os ad len cap HLEN.out L0.out HATb.out).mono ?_); rintro e w3 ⟨⟨u3, rfl⟩, v3, ho3, ht3⟩; have H3 := Lib.hid ho3; clear ho3 ht3 H2))
    | (go_at_call 17; ((with_reducible refine (copy_any t p v3 c.data m _ w3 H3.out.bk).mono ?_); rintro e w4 ⟨t4, p4, v4, rfl, hb4, ht4, hp4, hv4, hg4⟩; have O4 := Lib.hid (Own.mk (w := wb) hb4 (grown_trans H3.out.old hg4) (Nat.le_trans H3.out.old.size hp4) (fun k e => Nat.le_trans H3.out.old.size (hv4 k e))); have K4 := Lib.hid (H3.out.grown hg4); have A4 : Hid (Ap v3 v4) := Lib.hid (fun g h1 h2 => by have := H3.out.bk.pool.sl.lt g h1; have := hv4 g h2; omega); have HP2 : Hid (p4 ≠ p) := Lib.hid (by have := H3.out.bk.pool.lt; omega); clear hb4 ht4 hp4 hv4 hg4 H3))
    | (go_at_call 17; ((with_reducible refine (copy_any t p v3 c.data m _ w4 K4.out.bk).mono ?_); rintro e w5 ⟨t5, p5, v5, rfl, hb5, ht5, hp5, hv5, hg5⟩; have T5 := Lib.hid (Own.mk (w := wb) hb5 (grown_trans K4.out.old hg5) (Nat.le_trans K4.out.old.size hp5) (fun k e => Nat.le_trans K4.out.old.size (hv5 k e))); have K5 := Lib.hid (K4.out.grown hg5); have O5 := Lib.hid (O4.out.grown hg5); have A5 : Hid (Ap v3 v5) := Lib.hid (fun g h1 h2 => by have := K4.out.bk.pool.sl.lt g h1; have := hv5 g h2; omega); have A45 : Hid (Ap v4 v5) := Lib.hid (fun g h1 h2 => by have := O4.out.bk.pool.sl.lt g h1; have := hv5 g h2; omega); have HP1 : Hid (p5 ≠ p) := Lib.hid (by have := K4.out.bk.pool.lt; omega); have HP3 : Hid (p4 ≠ p5) := Lib.hid (by have := O4.out.bk.pool.lt; omega); clear hb5 ht5 hp5 hv5 hg5 K4 O4))
    | (go_at_call 26; ((with_reducible refine (do_any O5.out ps adp lenp capp HLENP.out L1.out HATPb.out).mono ?_); rintro e w6 ⟨⟨u6, rfl⟩, v6, ho6, ht6⟩; have O6 := Lib.hid ho6; have hk6 := K5.out.keep O5.out ht6 (Ne.symm HP2.out) A4.out.symm; have hh6 := T5.out.keep O5.out ht6 (Ne.symm HP3.out) A45.out; have K6 := Lib.hid hk6.1; have T6 := Lib.hid hh6.1; have A6 := Lib.hid hk6.2.symm; have A7 := Lib.hid hh6.2.symm; obtain ⟨c0, c1, c2, c3, c4, c5, c6, c7⟩ := HCA.out.grown ho6.old; clear ho6 ht6 hk6 hh6))
    | (go_at_call 25; ((with_reducible refine (HDAb.out _ O6.out.old).mono ?_); rintro e w7 ⟨rfl, hg7⟩; have K7 := Lib.hid (K6.out.grown hg7); have T7 := Lib.hid (T6.out.grown hg7); have O7 := Lib.hid (O6.out.grown hg7); clear hg7 K6 T6 O6))
    | fail)
  obtain ⟨NS1, hNS1⟩ : ∃ NS, NS = plays c.data m [] os := ⟨_, rfl⟩
  rw [← hNS1] at K7 T7 O7
  obtain ⟨NS2, hNS2⟩ : ∃ NS, NS = plays c.data m NS1 ps := ⟨_, rfl⟩
  rw [← hNS2] at O7
  have HNS2 := Lib.hid hNS2
  clear hNS1 hNS2 c0 c1 c2 c3 c4 c5 c6 c7
  go_loopw [57] (fun i wr => ∃ (j : Nat) (vk vt vo : Value), j ≤ N ∧ i = .int .i64 (j : Int) ∧ Own wb wr t p vk c.data m NS1 ∧ Own wb wr t5 p5 vt c.data m NS1 ∧ Own wb wr t4 p4 vo c.data m NS2 ∧ Ap vk vt ∧ Ap vk vo ∧ Ap vt vo) (fun i _ => N - (intOf i).toNat)
  case atStart => exact ⟨0, _, _, _, Nat.zero_le _, rfl, K7.out, T7.out, O7.out, A5.out, A6.out, A7.out⟩
  case round =>
    clear K7 T7 O7 A4 A5 A45 A6 A7
    obtain ⟨j, vk, vt, vo, hj, rfl, hk, hh, ho, ha1, ha2, ha3⟩ := hrel
    have HK := Lib.hid hk
    have HH := Lib.hid hh
    have HO := Lib.hid ho
    have A1 := Lib.hid ha1
    have A2 := Lib.hid ha2
    have A3 := Lib.hid ha3
    have hj256 : j ≤ 256 := by have := HNN.out; omega
    clear hk hh ho ha1 ha2 ha3
    by_cases hlt : j < N
    · obtain ⟨D, hD⟩ : ∃ D, D = fd (look NS1 (j : Int)) := ⟨_, rfl⟩
      obtain ⟨FL, hFL⟩ : ∃ FL, FL = fl (look NS1 (j : Int)) := ⟨_, rfl⟩
      obtain ⟨IS, hIS⟩ : ∃ IS, IS = (look NS1 (j : Int)).isSome := ⟨_, rfl⟩
      have HF1 : Hid (∀ (v' : Value) (W : World), Own wb W t p v' c.data m NS1 → _) := Lib.hid fun v' W h => own_find h (j : Int)
      have HF2 : Hid (∀ (v' : Value) (W : World), Own wb W t5 p5 v' c.data m NS1 → _) := Lib.hid fun v' W h => own_find h (j : Int)
      rw [← hD, ← hFL, ← hIS] at HF1 HF2
      have HDL : Hid (D.length = 16) := Lib.hid (by rw [hD]; exact fd_len _)
      have hq := eqD D HDL.out
      have hb1 := eqB FL
      have hb2 := eqB IS
      clear hD hFL hIS
      go_wp2_with (first
        | (go_at_call 13; ((with_reducible refine (HF1.out _ _ HK.out).mono ?_); rintro e w8 ⟨rfl, v8, ho8, ht8⟩; have K8 := Lib.hid (ho8.grown (w2 := w8.alloc (.cells (row D) 33)) (grown_alloc (grown_refl _ _) _)); have hq8 := HH.out.keep HK.out ht8 HP1.out A1.out; have H8 := Lib.hid (hq8.1.grown (w2 := w8.alloc (.cells (row D) 33)) (grown_alloc (grown_refl _ _) _)); have B1 := Lib.hid hq8.2; have hr8 := HO.out.keep HK.out ht8 HP2.out A2.out; have O8 := Lib.hid (hr8.1.grown (w2 := w8.alloc (.cells (row D) 33)) (grown_alloc (grown_refl _ _) _)); have B2 := Lib.hid hr8.2; have HD8 : Hid ((w8.alloc (.cells (row D) 33)).heap[w8.heap.size]? = some (.cells (row D) 33 (0, 0))) := Lib.hid (heap_alloc_new _ _); clear ho8 ht8 hq8 hr8))
        | ((with_reducible refine store_rown D HDL.out _ _ rfl _ _ ?_ ?_ ?_ ?_); (rfl); (rfl); (rfl))
        | (go_at_call 13; ((with_reducible refine (HF2.out _ _ H8.out).mono ?_); rintro e w9 ⟨rfl, v9, ho9, ht9⟩; have H9 := Lib.hid (ho9.grown (w2 := w9.alloc (.cells (row D) 33)) (grown_alloc (grown_refl _ _) _)); have hq9 := K8.out.keep H8.out ht9 (Ne.symm HP1.out) B1.out.symm; have K9 := Lib.hid (hq9.1.grown (w2 := w9.alloc (.cells (row D) 33)) (grown_alloc (grown_refl _ _) _)); have C1 := Lib.hid hq9.2.symm; have hr9 := O8.out.keep H8.out ht9 HP3.out A3.out; have O9 := Lib.hid (hr9.1.grown (w2 := w9.alloc (.cells (row D) 33)) (grown_alloc (grown_refl _ _) _)); have C3 := Lib.hid hr9.2; have HD9 := Lib.hid ((Below.heap_alloc w9 (.cells (row D) 33) _ (lt_of (H8.out.aside ht9 HD8.out (by decide) (by decide)))).trans (H8.out.aside ht9 HD8.out (by decide) (by decide))); have HE9 : Hid ((w9.alloc (.cells (row D) 33)).heap[w9.heap.size]? = some (.cells (row D) 33 (0, 0))) := Lib.hid (heap_alloc_new _ _); clear ho9 ht9 hq9 hr9))
        | ((with_reducible refine load_row D HDL.out _ w8.heap.size ?_ (range_row HD9.out) ?_); (rfl))
        | ((with_reducible refine load_row D HDL.out _ w9.heap.size ?_ (range_row HE9.out) ?_); (rfl))
        | fail)
      go_roundw
      case rel => exact ⟨j + 1, v8, v9, _, by omega, by go_num, K9.out, H9.out, O9.out, C1.out, B2.out, C3.out⟩
      case measure => simp [intOf]; omega
    · have HDK := Lib.hid (do_any HK.out ps adp lenp capp HLENP.out L1.out HATPb.out)
      rw [← HNS2.out] at HDK
      go_wp2_with (first
        | (go_at_call 26; ((with_reducible refine HDK.out.mono ?_); rintro e wA ⟨⟨uA, rfl⟩, vA, hoA, htA⟩; have KA := Lib.hid hoA; have hhA := HH.out.keep HK.out htA HP1.out A1.out; have hrA := HO.out.keep HK.out htA HP2.out A2.out; have TA := Lib.hid hhA.1; have OA := Lib.hid hrA.1; have D1 := Lib.hid hhA.2; have D2 := Lib.hid hrA.2; obtain ⟨c0, c1, c2, c3, c4, c5, c6, c7⟩ := HCA.out.grown hoA.old; clear hoA htA hhA hrA))
        | (go_at_call 25; ((with_reducible refine (HDAb.out _ KA.out.old).mono ?_); rintro e wB ⟨rfl, hgB⟩; have KB := Lib.hid (KA.out.grown hgB); have TB := Lib.hid (TA.out.grown hgB); have OB := Lib.hid (OA.out.grown hgB); clear hgB KA TA OA))
        | fail)
      clear c0 c1 c2 c3 c4 c5 c6 c7 HK HH HO A1 A2
      have HAO := Lib.hid A3.out.symm
      clear A3
      go_loopw [94] (fun i wr => ∃ (j : Nat) (vk vt vo : Value), j ≤ N ∧ i = .int .i64 (j : Int) ∧ Own wb wr t p vk c.data m NS2 ∧ Own wb wr t4 p4 vt c.data m NS2 ∧ Own wb wr t5 p5 vo c.data m NS1 ∧ Ap vk vt ∧ Ap vk vo ∧ Ap vt vo) (fun i _ => N - (intOf i).toNat)
      case atStart => exact ⟨0, _, _, _, Nat.zero_le _, rfl, KB.out, OB.out, TB.out, D2.out, D1.out, HAO.out⟩
      case round =>
        clear KB TB OB D1 D2 HAO hlt hj hj256
        obtain ⟨j, vk, vt, vo, hj, rfl, hk, hh, ho, ha1, ha2, ha3⟩ := hrel
        have HK := Lib.hid hk
        have HH := Lib.hid hh
        have HO := Lib.hid ho
        have A1 := Lib.hid ha1
        have A2 := Lib.hid ha2
        have A3 := Lib.hid ha3
        have hj256 : j ≤ 256 := by have := HNN.out; omega
        clear hk hh ho ha1 ha2 ha3
        by_cases hlt : j < N
        · obtain ⟨D, hD⟩ : ∃ D, D = fd (look NS2 (j : Int)) := ⟨_, rfl⟩
          obtain ⟨FL, hFL⟩ : ∃ FL, FL = fl (look NS2 (j : Int)) := ⟨_, rfl⟩
          obtain ⟨IS, hIS⟩ : ∃ IS, IS = (look NS2 (j : Int)).isSome := ⟨_, rfl⟩
          have HF1 : Hid (∀ (v' : Value) (W : World), Own wb W t p v' c.data m NS2 → _) := Lib.hid fun v' W h => own_find h (j : Int)
          have HF2 : Hid (∀ (v' : Value) (W : World), Own wb W t4 p4 v' c.data m NS2 → _) := Lib.hid fun v' W h => own_find h (j : Int)
          rw [← hD, ← hFL, ← hIS] at HF1 HF2
          have HDL : Hid (D.length = 16) := Lib.hid (by rw [hD]; exact fd_len _)
          have hq := eqD D HDL.out
          have hb1 := eqB FL
          have hb2 := eqB IS
          clear hD hFL hIS
          go_wp2_with (first
            | (go_at_call 13; ((with_reducible refine (HF1.out _ _ HK.out).mono ?_); rintro e w8 ⟨rfl, v8, ho8, ht8⟩; have K8 := Lib.hid (ho8.grown (w2 := w8.alloc (.cells (row D) 33)) (grown_alloc (grown_refl _ _) _)); have hq8 := HH.out.keep HK.out ht8 HP2.out A1.out; have H8 := Lib.hid (hq8.1.grown (w2 := w8.alloc (.cells (row D) 33)) (grown_alloc (grown_refl _ _) _)); have B1 := Lib.hid hq8.2; have hr8 := HO.out.keep HK.out ht8 HP1.out A2.out; have O8 := Lib.hid (hr8.1.grown (w2 := w8.alloc (.cells (row D) 33)) (grown_alloc (grown_refl _ _) _)); have B2 := Lib.hid hr8.2; have HD8 : Hid ((w8.alloc (.cells (row D) 33)).heap[w8.heap.size]? = some (.cells (row D) 33 (0, 0))) := Lib.hid (heap_alloc_new _ _); clear ho8 ht8 hq8 hr8))
            | ((with_reducible refine store_rown D HDL.out _ _ rfl _ _ ?_ ?_ ?_ ?_); (rfl); (rfl); (rfl))
            | (go_at_call 13; ((with_reducible refine (HF2.out _ _ H8.out).mono ?_); rintro e w9 ⟨rfl, v9, ho9, ht9⟩; have H9 := Lib.hid (ho9.grown (w2 := w9.alloc (.cells (row D) 33)) (grown_alloc (grown_refl _ _) _)); have hq9 := K8.out.keep H8.out ht9 (Ne.symm HP2.out) B1.out.symm; have K9 := Lib.hid (hq9.1.grown (w2 := w9.alloc (.cells (row D) 33)) (grown_alloc (grown_refl _ _) _)); have C1 := Lib.hid hq9.2.symm; have hr9 := O8.out.keep H8.out ht9 (Ne.symm HP3.out) A3.out; have O9 := Lib.hid (hr9.1.grown (w2 := w9.alloc (.cells (row D) 33)) (grown_alloc (grown_refl _ _) _)); have C3 := Lib.hid hr9.2; have HD9 := Lib.hid ((Below.heap_alloc w9 (.cells (row D) 33) _ (lt_of (H8.out.aside ht9 HD8.out (by decide) (by decide)))).trans (H8.out.aside ht9 HD8.out (by decide) (by decide))); have HE9 : Hid ((w9.alloc (.cells (row D) 33)).heap[w9.heap.size]? = some (.cells (row D) 33 (0, 0))) := Lib.hid (heap_alloc_new _ _); clear ho9 ht9 hq9 hr9))
            | ((with_reducible refine load_row D HDL.out _ w8.heap.size ?_ (range_row HD9.out) ?_); (rfl))
            | ((with_reducible refine load_row D HDL.out _ w9.heap.size ?_ (range_row HE9.out) ?_); (rfl))
            | fail)
          go_roundw
          case rel => exact ⟨j + 1, v8, v9, _, by omega, by go_num, K9.out, H9.out, O9.out, C1.out, B2.out, C3.out⟩
          case measure => simp [intOf]; omega
        · go_wp2_with (go_at_call 10; ((with_reducible refine (HWb.out _ HK.out.old).mono ?_); rintro e w3 ⟨rfl, hg3⟩; have HG3 := Lib.hid (grown_trans HK.out.old hg3); clear hg3))
          go_ret
          exact ⟨rfl, HFIN.out _ HG3.out⟩
theorem copies_true (c : Cfg) (os ps : List OpX) (ad : Option Addr) (len cap : Nat) (adp : Option Addr) (lenp capp : Nat) (w : World) (hT : Tab w) (hlen : len = os.length) (hat : OpsAt w ad os) (hlenp : lenp = ps.length) (hatp : OpsAt w adp ps) : Calls Tryd.prog 7 #[.agg c.cells, .slice ad len cap, .slice adp lenp capp] w fun e w' => e = .returned (.bool true) ∧ w.grownBy w' none := by
  by_cases h0 : 200 < len
  · exact copies_long1 c ad adp len cap lenp capp w hT h0
  · by_cases h : 200 < lenp
    · exact copies_long2 c ad adp len cap lenp capp w hT (by omega) h
    · by_cases hm : c.may
      · exact copies_some c ad adp len cap lenp capp w hT os ps hlen hat hlenp hatp (by omega) (by omega) hm
      · exact copies_no c ad adp len cap lenp capp w hT (by omega) (by omega) hm
end Go.Proofs.YtoifeinkaaclmaaDoor.bk
