/-
  HomeCopies' walk. Condition: the tables lie in their variables as the program's text has them; the notes lie where the arguments say.
-/
import Derived.Test.YtenhdijbcdkfbaaDoorHlA
namespace Go.Proofs.YtenhdijbcdkfbaaDoor.hh
open Go Go.ChangeShapes Go.WideShapes Go.ChangeAt Go.RowKit
open Go.Proofs.YtenhdijbcdkfbaaDoor.tt (Nt Cfg fits net bare zd usd uses coreOf ok_ends MapAt mput mdel ik NPool NSl Turn flat na nt zn grown_alloc grown_refl grown_trans tyne lt_of)
open Go.Proofs.YtenhdijbcdkfbaaDoor.en (En gets back asked asks free ask_parts may_parts ea)
open Go.Proofs.YtenhdijbcdkfbaaDoor.mm (wi wo ones wo_lt)
set_option linter.unusedVariables false
set_option linter.unusedSimpArgs false

set_option maxHeartbeats 1000000 in
theorem copies_long1 (c : Cfg) (ad ad2 : Option Addr) (len cap len2 cap2 : Nat) (w : World) (T : Tabs w) (h : 200 < len) : Calls Tryd.prog 7 #[.agg c.cells, .slice ad len cap, .slice ad2 len2 cap2] w fun e w' => e = .returned (.bool true) ∧ w.grownBy w' none := by
  have hd : decide ((200 : Int) < (len : Int)) = true := by simp; omega
  have hg0 : w.grownBy (w.alloc (.cells c.cells 40)) none := grown_alloc (grown_refl _ _) _
  have HW : Hid (∀ w', w.grownBy w' none → _) := Lib.hid (fun w' h => works_any w' (T.grown h))
  have HG0 := Lib.hid hg0
  have HA := Lib.hid (tt.cfg_at w c)
  obtain ⟨c0, c1, c2, c3, c4, c5, c6, c7⟩ := HA.out
  clear T h hg0
  unfold Cfg.cells at *
  go_enter Tryd.func7, Tryd.ntmps7
  go_wp2_with (go_at_call 11; ((with_reducible refine (HW.out _ HG0.out).mono ?_); rintro e w3 ⟨rfl, hgw3⟩; have Gw3 := Lib.hid (grown_trans HG0.out hgw3); clear hgw3))
  go_ret
  exact ⟨rfl, Gw3.out⟩
set_option maxHeartbeats 1000000 in
theorem copies_long2 (c : Cfg) (ad ad2 : Option Addr) (len cap len2 cap2 : Nat) (w : World) (T : Tabs w) (h0 : len ≤ 200) (h : 200 < len2) : Calls Tryd.prog 7 #[.agg c.cells, .slice ad len cap, .slice ad2 len2 cap2] w fun e w' => e = .returned (.bool true) ∧ w.grownBy w' none := by
  have hd : decide ((200 : Int) < (len : Int)) = false := by simp; omega
  have hd2 : decide ((200 : Int) < (len2 : Int)) = true := by simp; omega
  have hg0 : w.grownBy (w.alloc (.cells c.cells 40)) none := grown_alloc (grown_refl _ _) _
  have HW : Hid (∀ w', w.grownBy w' none → _) := Lib.hid (fun w' h => works_any w' (T.grown h))
  have HG0 := Lib.hid hg0
  have HA := Lib.hid (tt.cfg_at w c)
  obtain ⟨c0, c1, c2, c3, c4, c5, c6, c7⟩ := HA.out
  clear T h0 h hg0
  unfold Cfg.cells at *
  go_enter Tryd.func7, Tryd.ntmps7
  go_wp2_with (go_at_call 11; ((with_reducible refine (HW.out _ HG0.out).mono ?_); rintro e w3 ⟨rfl, hgw3⟩; have Gw3 := Lib.hid (grown_trans HG0.out hgw3); clear hgw3))
  go_ret
  exact ⟨rfl, Gw3.out⟩
set_option maxHeartbeats 1000000 in
theorem copies_no (c : Cfg) (ad ad2 : Option Addr) (len cap len2 cap2 : Nat) (w : World) (T : Tabs w) (h0 : len ≤ 200) (h : len2 ≤ 200) (hm : ¬ c.may) : Calls Tryd.prog 7 #[.agg c.cells, .slice ad len cap, .slice ad2 len2 cap2] w fun e w' => e = .returned (.bool true) ∧ w.grownBy w' none := by
  have hd : decide ((200 : Int) < (len : Int)) = false := by simp; omega
  have hd2 : decide ((200 : Int) < (len2 : Int)) = false := by simp; omega
  have hg0 : w.grownBy (w.alloc (.cells c.cells 40)) none := grown_alloc (grown_refl _ _) _
  have HW : Hid (∀ w', w.grownBy w' none → _) := Lib.hid (fun w' h => works_any w' (T.grown h))
  have HG0 := Lib.hid hg0
  have HA := Lib.hid (tt.cfg_at w c)
  have HMY := Lib.hid (tt.may_any c _ (T.grown hg0).t)
  rw [tt.yes_not hm] at HMY
  obtain ⟨c0, c1, c2, c3, c4, c5, c6, c7⟩ := HA.out
  clear T h0 h hm hg0
  unfold Cfg.cells at *
  go_enter Tryd.func7, Tryd.ntmps7
  go_wp2_with (first
    | (go_at_call 21; ((with_reducible refine HMY.out.mono ?_); rintro e w2 ⟨rfl, hg2⟩; have HG2 := Lib.hid (grown_trans HG0.out hg2); clear hg2))
    | (go_at_call 11; ((with_reducible refine (HW.out _ HG2.out).mono ?_); rintro e w3 ⟨rfl, hgw3⟩; have Gw3 := Lib.hid (grown_trans HG2.out hgw3); clear hgw3)))
  go_ret
  exact ⟨rfl, Gw3.out⟩
set_option maxRecDepth 1000000 in
set_option maxHeartbeats 8000000 in
theorem copies_some (c : Cfg) (ad ad2 : Option Addr) (len cap len2 cap2 : Nat) (w : World) (T : Tabs w) (ns ms : List Nt) (hlen : len = ns.length) (hat : NotesAt w ad ns) (hw : ∀ n ∈ ns, Word n) (hlen2 : len2 = ms.length) (hat2 : NotesAt w ad2 ms) (hw2 : ∀ n ∈ ms, Word n) (h0 : len ≤ 200) (h : len2 ≤ 200) (hm : c.may) : Calls Tryd.prog 7 #[.agg c.cells, .slice ad len cap, .slice ad2 len2 cap2] w fun e w' => e = .returned (.bool true) ∧ w.grownBy w' none := by
  have hd : decide ((200 : Int) < (len : Int)) = false := by simp; omega
  have hd2 : decide ((200 : Int) < (len2 : Int)) = false := by simp; omega
  have hg0 : w.grownBy (w.alloc (.cells c.cells 40)) none := grown_alloc (grown_refl _ _) _
  have HW : Hid (∀ w', w.grownBy w' none → _) := Lib.hid (fun w' h => works_any w' (T.grown h))
  have HG0 := Lib.hid hg0
  have HA := Lib.hid (tt.cfg_at w c)
  have HMY := Lib.hid (tt.may_any c _ (T.grown hg0).t)
  rw [tt.yes_of hm] at HMY
  have HMN : Hid (∀ w, _) := Lib.hid fun w => mem_new hm w
  have HN : Hid (∀ w1 mb mv, w.grownBy w1 none → pp.Mem w1 mb mv (m0 c) → (∀ i, mv.ownBlock = some i → w.heap.size ≤ i) → _) := Lib.hid fun w1 mb mv hg hM hv => own_new T hg hM hv hm (m0_len hm)
  have HT := Lib.hid T
  have HAT := Lib.hid (fun w' (h : w.grownBy w' none) => hat.grown h)
  have HAT2 := Lib.hid (fun w' (h : w.grownBy w' none) => hat2.grown h)
  have HL := Lib.hid hlen
  have HL2 := Lib.hid hlen2
  have HW1 := Lib.hid hw
  have HW2 := Lib.hid hw2
  have HH0 := Lib.hid h0
  have HH := Lib.hid h
  obtain ⟨i0, hi, hz0, hz1, hz2⟩ := info_parts infoSl
  obtain ⟨c0, c1, c2, c3, c4, c5, c6, c7⟩ := HA.out
  clear T h0 h hm hg0 hat hlen hat2 hlen2 hw hw2
  unfold Cfg.cells at HN HG0 HA HMY c0 c1 c2 c3 c4 c5 c6 c7 ⊢
  go_enter Tryd.func7, Tryd.ntmps7
  go_wp2_with (first
    | (go_at_call 21; ((with_reducible refine HMY.out.mono ?_); rintro e w2 ⟨rfl, hg2⟩; obtain ⟨d0, d1, d2, d3, d4, d5, d6, d7⟩ := HA.out.grown hg2; have HG2 := Lib.hid (grown_trans HG0.out hg2); have HA2 := Lib.hid (HA.out.grown hg2); clear hg2 c0 c1 c2 c3 c4 c5 c6 c7))
    | (go_at_call 22; ((with_reducible refine (HMN.out _).mono ?_); rintro e w3 ⟨mb, mv, rfl, hM, hg3, hmb, hmv⟩; obtain ⟨c0, c1, c2, c3, c4, c5, c6, c7⟩ := HA2.out.grown hg3; have HG3 := Lib.hid (grown_trans HG2.out hg3); have HM := Lib.hid hM; have HV := Lib.hid (fun i hi => Nat.le_trans HG2.out.size (hmv i hi)); clear hg3 hM hmb hmv d0 d1 d2 d3 d4 d5 d6 d7))
    | (go_at_call 14; ((with_reducible refine (HN.out _ mb mv HG3.out HM.out HV.out).mono ?_); rintro e w4 ⟨h, F, rfl, hO, _, _, _⟩; have HO := Lib.hid hO; clear hO c0 c1 c2 c3 c4 c5 c6 c7)))
  clear HN HMN HMY HA HA2 HM HV HG3 HG2 HG0
  obtain ⟨H0, hH0⟩ : ∃ H0, H0 = new c (m0 c) := ⟨_, rfl⟩
  rw [← hH0] at HO
  clear hH0
  go_loopw [57] (fun i wr => ∃ (j : Nat) (F : Ft), j ≤ len ∧ i = .int .i64 (j : Int) ∧ Own w wr h c F (stOf c H0 (ns.take j))) (fun i _ => len - (intOf i).toNat)
  case atStart => exact ⟨0, F, Nat.zero_le _, rfl, HO.out⟩
  case round =>
    clear HO
    obtain ⟨j, F1, hj, rfl, ho⟩ := hrel
    have HO := Lib.hid ho
    clear ho
    have hj200 : j ≤ 200 := by have := HH0.out; omega
    by_cases hlt : j < len
    · obtain ⟨n, hn⟩ : ∃ n, ns[j]? = some n := ⟨_, List.getElem?_eq_getElem (by have := HL.out; omega)⟩
      obtain ⟨b, off, rfl, hr⟩ := HAT.out _ HO.out.old j n hn
      have HR := Lib.hid hr
      have hgn : wr.grownBy (wr.alloc (.cells (na n) 31)) none := grown_alloc (grown_refl _ _) _
      have HX : Hid ((wr.alloc (.cells (na n) 31)).rangeAt wr.heap.size 0 (nt n)) := Lib.hid (tt.range_of (heap_alloc_new _ _))
      have HN := Lib.hid hn
      have HWN := Lib.hid (HW1.out n (List.mem_of_getElem? hn))
      have HTK := Lib.hid (own_take HT.out (HO.out.grown hgn) n HWN.out)
      clear hn hr hgn
      go_wp2_with (first
        | ((with_reducible refine tt.load_na n _ b (off + j * 24) ?_ HR.out ?_); (rfl))
        | ((with_reducible refine tt.store_new n _ _ _ ?_ ?_ ?_ ?_); (rfl); (rfl); (rfl))
        | ((with_reducible refine tt.load_nt n _ wr.heap.size ?_ HX.out ?_); (rfl))
        | (go_at_call 16; ((with_reducible refine HTK.out.mono ?_); rintro e w5 ⟨F2, v, rfl, ho, _, _, _⟩; have HO2 := Lib.hid ho; clear ho)))
      go_roundw
      case rel => exact ⟨j + 1, F2, by omega, by go_num, by rw [take_snoc HN.out, stOf_snoc]; exact HO2.out⟩
      case measure => simp [intOf]; omega
    · have HE : Hid (ns.take j = ns) := Lib.hid (List.take_of_length_le (by have := HL.out; omega))
      rw [HE.out] at HO
      clear hj hj200 HE
      obtain ⟨H1, hH1⟩ : ∃ H1, H1 = stOf c H0 ns := ⟨_, rfl⟩
      rw [← hH1] at HO
      clear hH1
      obtain ⟨wA, rfl⟩ : ∃ x, x = wr := ⟨wr, rfl⟩
      have HCP := Lib.hid (copy_any HO.out.at')
      go_wp2_with (go_at_call 20; ((with_reducible refine HCP.out.mono ?_); rintro e w5 ⟨h', G, rfl, hB, hg5, hh, hmb, hfr⟩; have HB : Hid (Own wA w5 h' c G H1) := Lib.hid ⟨hB, hg5, hfr⟩; have HG5 := Lib.hid hg5; clear hB hg5 hh hmb hfr))
      have HTR := Lib.hid (HT.out.grown HO.out.old)
      have HS0 : Hid (tt.Sl w5 42 1 (.slice none 0 0) 0 []) := Lib.hid (tt.Sl.nil _ _ _)
      go_loopw [69, 14] (fun i u wq => ∃ (j : Nat) (G : Ft) (vs : List Value), j ≤ len2 ∧ i = .int .i64 (j : Int) ∧ Own wA wq h' c G (stOf c H1 (ms.take j)) ∧ tt.Sl wq 42 1 u j vs ∧ (∀ k, u.ownBlock = some k → wA.heap.size ≤ k) ∧ Kept wq vs (outsOf c H1 (ms.take j)) ∧ Off (fun k => ¬ G.own k) vs ∧ Off (fun k => wA.heap.size ≤ k) vs) (fun i _ _ => len2 - (intOf i).toNat)
      case atStart => exact ⟨0, G, [], Nat.zero_le _, rfl, HB.out, HS0.out, fun k hk => by simp [Value.ownBlock] at hk, kept_nil _, (fun v hv => by cases hv), (fun v hv => by cases hv)⟩
      case round =>
        clear HB HS0
        obtain ⟨j, G1, vs, hj, rfl, hb, hs, hun, hk, ho1, ho2⟩ := hrel
        have HB := Lib.hid hb
        have HS := Lib.hid hs
        have HU := Lib.hid hun
        have HK := Lib.hid hk
        have HO1 := Lib.hid ho1
        have HO2 := Lib.hid ho2
        have hj200 : j ≤ 200 := by have := HH.out; omega
        obtain ⟨adu, capu, rfl⟩ := hs.form
        clear hb hs hun hk ho1 ho2
        by_cases hlt : j < len2
        · obtain ⟨n, hn⟩ : ∃ n, ms[j]? = some n := ⟨_, List.getElem?_eq_getElem (by have := HL2.out; omega)⟩
          obtain ⟨b, off, rfl, hr⟩ := HAT2.out _ (grown_trans HO.out.old HB.out.old) j n hn
          have HR := Lib.hid hr
          have hgn : wr.grownBy (wr.alloc (.cells (na n) 31)) none := grown_alloc (grown_refl _ _) _
          have HX : Hid ((wr.alloc (.cells (na n) 31)).rangeAt wr.heap.size 0 (nt n)) := Lib.hid (tt.range_of (heap_alloc_new _ _))
          have HN := Lib.hid hn
          have HWN := Lib.hid (HW2.out n (List.mem_of_getElem? hn))
          have HBN := Lib.hid (HB.out.grown hgn)
          have HTK := Lib.hid (own_take HTR.out HBN.out n HWN.out)
          have HK1 := Lib.hid (HK.out.grown hgn)
          have HS1 := Lib.hid (HS.out.grown hgn)
          have hlw : wA.heap.size ≤ (wr.alloc (.cells (na n) 31)).heap.size := HBN.out.old.size
          have HLW := Lib.hid hlw
          clear hn hr hgn hlw
          go_wp2_with (first
        | ((with_reducible refine tt.load_na n _ b (off + j * 24) ?_ HR.out ?_); (rfl))
        | ((with_reducible refine tt.store_new n _ _ _ ?_ ?_ ?_ ?_); (rfl); (rfl); (rfl))
        | ((with_reducible refine tt.load_nt n _ wr.heap.size ?_ HX.out ?_); (rfl))
        | (go_at_call 16; ((with_reducible refine HTK.out.mono ?_); rintro e w6 ⟨G2, v, rfl, ho, hS, hD, hf⟩; have HB2 := Lib.hid ho; have HV2 := Lib.hid hS; have HF2 := Lib.hid hf; obtain ⟨hk2, ho2⟩ := HK1.out.did hD HO1.out; have HO3 := Lib.hid ho2; have HS2 := Lib.hid (sls_did HBN.out.at' hD HS1.out); obtain ⟨adv, capv, hv⟩ := hS.form; obtain ⟨nv, hnv⟩ : ∃ q, q = (take c (stOf c H1 (ms.take j)) n).2.1.length := ⟨_, rfl⟩; rw [← hnv] at hv; subst hv; have hga : w6.grownBy (w6.alloc (.cells #[.slice adv nv capv] 42)) none := grown_alloc (grown_refl _ _) _; have HK2 := Lib.hid (hk2.grown hga); have HBA := Lib.hid (HB2.out.grown hga); have HSB := Lib.hid (HS2.out.grown hga); have HVA := Lib.hid (HV2.out.grown hga); clear ho hS hD hf hk2 ho2 hga hnv))
            | (at_builtin; (refine tt.append_sl 76 42 1 i0 (.slice none 0 0) 24 _ _ Tryd.underlying76 hi hz0 hz1 hz2 rfl (.slice adu j capu) j vs ?_ HSB.out (.slice (some ⟨w6.heap.size, 0, none⟩) 1 1) 1 [.slice adv nv capv] ?_ (tt.src_one w6 [.slice adv nv capv] 1 42 Tryd.underlying76 rfl (fun u hu => by rw [List.mem_singleton.1 hu]; rfl)) (by unfold maxLen; omega) (by omega) ?_); (rfl); (rfl); intro v7 w7 hs7 hg7 hn7; have HS7 := Lib.hid hs7; have HG7 := Lib.hid hg7; have HN7 := Lib.hid hn7; clear hs7 hg7 hn7))

          have HKW := Lib.hid (HK2.out.wrote HG7.out (fun k hk => (HSB.out.type k hk)))
          have HBW := Lib.hid (HBA.out.wrote HG7.out (fun k hk => (HSB.out.type k hk)) HU.out)
          go_roundw
          case rel =>
            refine ⟨j + 1, G2, vs ++ [.slice adv nv capv], by omega, by go_num, by rw [take_snoc HN.out, stOf_snoc]; exact HBW.out, HS7.out, HN7.out.ge (Nat.le_trans HB2.out.old.size (by simp)) HU.out, ?_, HO3.out.snoc (fun k hk => (HF2.out k hk).2), HO2.out.snoc (fun k hk => Nat.le_trans HLW.out (HF2.out k hk).1)⟩
            rw [take_snoc HN.out, outsOf_snoc]
            exact HKW.out.snoc (HVA.out.of_block fun k hk => HG7.out.block k (HVA.out.lt k hk) (fun e => by
              obtain ⟨c1, h1⟩ := HVA.out.type k hk
              obtain ⟨c2, h2⟩ := HSB.out.type k e.symm
              exact tyne h1 h2 (by decide) rfl))
          case measure => simp [intOf]; omega
        · have HE : Hid (ms.take j = ms) := Lib.hid (List.take_of_length_le (by have := HL2.out; omega))
          rw [HE.out] at HB HK
          obtain hjl : j = len2 := by omega
          rw [hjl] at HS ⊢
          clear hj hj200 HE
          have HO9 := Lib.hid (HO.out.grown HB.out.old)
          have HD9 : Hid (∀ i, F1.own i → ¬ G1.own i) := Lib.hid fun i h1 h2 => by have := HO.out.at'.own_lt h1; have := HB.out.fresh i h2; omega
          have HO8 : Hid (Off (fun k => ¬ F1.own k) vs) := Lib.hid (HO2.out.mono fun i h1 h2 => by have := HO.out.at'.own_lt h2; omega)
          have HBA := Lib.hid HB.out.at'
          obtain ⟨HT2, hHT2⟩ : ∃ x, x = stOf c H1 ms := ⟨_, rfl⟩
          rw [← hHT2] at HBA
          have HT2E := Lib.hid hHT2
          obtain ⟨os, hos⟩ : ∃ x, x = outsOf c H1 ms := ⟨_, rfl⟩
          rw [← hos] at HK
          have HOS := Lib.hid hos
          clear hos hHT2
          obtain ⟨wB, rfl⟩ : ∃ x, x = wr := ⟨wr, rfl⟩
          go_wp2_with fail
          go_loopw [86] (fun i wz => ∃ (j : Nat) (F : Ft), j ≤ len2 ∧ i = .int .i64 (j : Int) ∧ Own w wz h c F (stOf c H1 (ms.take j)) ∧ HomeAt wz h' c G1 HT2 ∧ (∀ i, F.own i → ¬ G1.own i) ∧ Kept wz vs os ∧ Off (fun k => ¬ F.own k) vs ∧ tt.Sl wz 42 1 (.slice adu len2 capu) len2 vs) (fun i _ => len2 - (intOf i).toNat)
          case atStart => exact ⟨0, F1, Nat.zero_le _, rfl, HO9.out, HBA.out, HD9.out, HK.out, HO8.out, HS.out⟩
          case round =>
            clear HO HO9 HBA HD9 HK HO8 HS HB HO1 HO2 HTR
            obtain ⟨j, F2, hj, rfl, ho, hb, hd, hk, hof, hs⟩ := hrel
            have HO := Lib.hid ho
            have HB := Lib.hid hb
            have HDJ := Lib.hid hd
            have HK := Lib.hid hk
            have HOF := Lib.hid hof
            have HS := Lib.hid hs
            have hj200 : j ≤ 200 := by have := HH.out; omega
            clear ho hb hd hk hof hs
            by_cases hlt : j < len2
            · obtain ⟨n, hn⟩ : ∃ n, ms[j]? = some n := ⟨_, List.getElem?_eq_getElem (by have := HL2.out; omega)⟩
              obtain ⟨b, off, rfl, hr⟩ := HAT2.out _ HO.out.old j n hn
              have HR := Lib.hid hr
              have hgn : wr.grownBy (wr.alloc (.cells (na n) 31)) none := grown_alloc (grown_refl _ _) _
              have HX : Hid ((wr.alloc (.cells (na n) 31)).rangeAt wr.heap.size 0 (nt n)) := Lib.hid (tt.range_of (heap_alloc_new _ _))
              have HN := Lib.hid hn
              have HWN := Lib.hid (HW2.out n (List.mem_of_getElem? hn))
              have HON := Lib.hid (HO.out.grown hgn)
              have HTK := Lib.hid (own_take HT.out HON.out n HWN.out)
              have HTL := Lib.hid (take_len HON.out.at' n)
              have HK1 := Lib.hid (HK.out.grown hgn)
              have HS1 := Lib.hid (HS.out.grown hgn)
              have HB1 := Lib.hid (HB.out.grown hgn)
              have hov : os[j]? = some (take c (stOf c H1 (ms.take j)) n).2.1 := by rw [HOS.out]; exact outsOf_at c ms H1 j n HN.out
              have hjv : j < vs.length := by rw [HK.out.len]; exact (List.getElem?_eq_some_iff.1 hov).1
              obtain ⟨vj, hvj⟩ : ∃ v, vs[j]? = some v := ⟨_, List.getElem?_eq_getElem hjv⟩
              obtain ⟨adj, capj, hfj⟩ := (HK.out.row j vj _ hvj hov).form
              have HOV := Lib.hid hov
              have HVJ := Lib.hid hvj
              obtain ⟨gu, ou, hau, _, hcu⟩ := HS.out.cellAt j vj hvj
              subst hau
              clear hn hr hgn hov hjv hvj hcu
              obtain ⟨o, ho⟩ : ∃ x, x = take c (stOf c H1 (ms.take j)) n := ⟨_, rfl⟩
              rw [← ho] at HTK HTL HOV hfj
              have HOE := Lib.hid ho
              obtain ⟨lo, hlo⟩ : ∃ x, x = o.2.1.length := ⟨_, rfl⟩
              rw [← hlo] at hfj
              subst hfj
              clear hlo ho
              go_wp2_with (first
        | ((with_reducible refine tt.load_na n _ b (off + j * 24) ?_ HR.out ?_); (rfl))
        | ((with_reducible refine tt.store_new n _ _ _ ?_ ?_ ?_ ?_); (rfl); (rfl); (rfl))
        | ((with_reducible refine tt.load_nt n _ wr.heap.size ?_ HX.out ?_); (rfl))
        | (go_at_call 16; ((with_reducible refine HTK.out.mono ?_); rintro e w6 ⟨F3, v, rfl, ho, hS, hD, hf⟩; have HO2 := Lib.hid ho; have HV2 := Lib.hid hS; obtain ⟨hk2, ho2⟩ := HK1.out.did hD HOF.out; have HK2 := Lib.hid hk2; have HOF9 := Lib.hid ho2; have HS2 := Lib.hid (sls_did HON.out.at' hD HS1.out); have HB2 := Lib.hid (HON.out.at'.apart HB1.out hD HDJ.out); have HD9 := Lib.hid (hD.apart HB1.out HDJ.out); obtain ⟨_, _, hau, _, hcu⟩ := HS2.out.cellAt j _ HVJ.out; cases hau; have hcj := hcu j _ HVJ.out; clear ho hS hD hf hk2 ho2 hcu))
                | (go_at_call 30; ((with_reducible refine (tt.equal_yes v _ o.2.1 w6 HV2.out (HK2.out.row j _ _ HVJ.out HOV.out) (Nat.le_trans HTL.out (by omega))).mono ?_); rintro e w8 ⟨rfl, hg8⟩; have HO9 := Lib.hid (HO2.out.grown hg8); have HB9 := Lib.hid (HB2.out.grown hg8); have HK9 := Lib.hid (HK2.out.grown hg8); have HS9 := Lib.hid (HS2.out.grown hg8); clear hg8)))

              go_roundw
              case rel => exact ⟨j + 1, F3, by omega, by go_num, by rw [take_snoc HN.out, stOf_snoc, ← HOE.out]; exact HO9.out, HB9.out, HD9.out, HK9.out, HOF9.out, HS9.out⟩
              case measure => simp [intOf]; omega
            · have HE : Hid (ms.take j = ms) := Lib.hid (List.take_of_length_le (by have := HL2.out; omega))
              rw [HE.out, ← HT2E.out] at HO
              clear hj hj200 HE
              go_wp2_with (first
                | (go_at_call 19; ((with_reducible refine (waits_any HO.out.at').mono ?_); rintro e w6 ⟨rfl, rfl⟩))
                | (go_at_call 19; ((with_reducible refine (waits_any HB.out).mono ?_); rintro e w6 ⟨rfl, rfl⟩))
                | (go_at_call 11; ((with_reducible refine (HW.out _ HO.out.old).mono ?_); rintro e w7 ⟨rfl, hg7⟩; have G7 := Lib.hid (grown_trans HO.out.old hg7); clear hg7)))
              go_ret
              exact ⟨rfl, G7.out⟩
theorem copies_true (c : Cfg) (ad ad2 : Option Addr) (len cap len2 cap2 : Nat) (w : World) (T : Tabs w) (ns ms : List Nt) (hlen : len = ns.length) (hat : NotesAt w ad ns) (hw : ∀ n ∈ ns, Word n) (hlen2 : len2 = ms.length) (hat2 : NotesAt w ad2 ms) (hw2 : ∀ n ∈ ms, Word n) : Calls Tryd.prog 7 #[.agg c.cells, .slice ad len cap, .slice ad2 len2 cap2] w fun e w' => e = .returned (.bool true) ∧ w.grownBy w' none := by
  by_cases h : 200 < len
  · exact copies_long1 c ad ad2 len cap len2 cap2 w T h
  · by_cases h2 : 200 < len2
    · exact copies_long2 c ad ad2 len cap len2 cap2 w T (by omega) h2
    · by_cases hm : c.may
      · exact copies_some c ad ad2 len cap len2 cap2 w T ns ms hlen hat hw hlen2 hat2 hw2 (by omega) (by omega) hm
      · exact copies_no c ad ad2 len cap len2 cap2 w T (by omega) (by omega) hm
end Go.Proofs.YtenhdijbcdkfbaaDoor.hh
