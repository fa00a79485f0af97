/-
  The law NetCopies returns true: the walk. Condition: the tables of bounds and of kinds lie in their variables as the program's text has them; that the notes and the picks lie where the arguments say.
-/
import Derived.Test.YtoemkhmbeiindaaDoorKb0
namespace Go.Proofs.YtoemkhmbeiindaaDoor.tt
open Go Go.ChangeShapes Go.WideShapes Go.ChangeAt Go.RowKit Go.Shelf
set_option linter.unusedVariables false

set_option maxHeartbeats 1000000 in
theorem copies_long1 (c : Cfg) (ad adp : Option Addr) (len cap lenp capp : Nat) (w : World) (hT : Tab w) (hK : TabK w) (h : 100 < len) :
    Calls Tryd.prog 7 #[.agg c.cells, .slice ad len cap, .slice adp lenp capp] w fun e w' => e = .returned (.bool true) ∧ w.grownBy w' none := by
  have hd : decide ((100 : Int) < (len : Int)) = true := by simp; omega
  have hg0 : w.grownBy (w.alloc (.cells c.cells 27)) none := grown_alloc (grown_refl _ _) _
  have HW : Hid (∀ w', w.grownBy w' none → _) := Lib.hid (fun w' h => works_any w' (hT.grown h) (hK.grown h))
  obtain ⟨c0, c1, c2, c3, c4, c5, c6, c7⟩ := cfg_at w c
  have HG0 := Lib.hid hg0
  clear hT hK h hg0
  unfold Cfg.cells at *
  go_enter Tryd.func7, Tryd.ntmps7
  go_wp2_with (first
    | (go_at_call 11; ((with_reducible refine (HW.out _ HG0.out).mono ?_); rintro e w3 ⟨rfl, hgw3⟩; have Gw3 := Lib.hid (grown_trans HG0.out hgw3); clear hgw3))
    | (go_at_call 11; ((with_reducible refine (HW.out _ Gw3.out).mono ?_); rintro e w4 ⟨rfl, hgw4⟩; have Gw4 := Lib.hid (grown_trans Gw3.out hgw4); clear hgw4)))
  go_ret
  exact ⟨rfl, Gw4.out⟩
set_option maxHeartbeats 1000000 in
theorem copies_long2 (c : Cfg) (ad adp : Option Addr) (len cap lenp capp : Nat) (w : World) (hT : Tab w) (hK : TabK w) (h0 : len ≤ 100) (h : 100 < lenp) :
    Calls Tryd.prog 7 #[.agg c.cells, .slice ad len cap, .slice adp lenp capp] w fun e w' => e = .returned (.bool true) ∧ w.grownBy w' none := by
  have hd0 : decide ((100 : Int) < (len : Int)) = false := by simp; omega
  have hd : decide ((100 : Int) < (lenp : Int)) = true := by simp; omega
  have hg0 : w.grownBy (w.alloc (.cells c.cells 27)) none := grown_alloc (grown_refl _ _) _
  have HW : Hid (∀ w', w.grownBy w' none → _) := Lib.hid (fun w' h => works_any w' (hT.grown h) (hK.grown h))
  obtain ⟨c0, c1, c2, c3, c4, c5, c6, c7⟩ := cfg_at w c
  have HG0 := Lib.hid hg0
  clear hT hK h0 h hg0
  unfold Cfg.cells at *
  go_enter Tryd.func7, Tryd.ntmps7
  go_wp2_with (first
    | (go_at_call 11; ((with_reducible refine (HW.out _ HG0.out).mono ?_); rintro e w3 ⟨rfl, hgw3⟩; have Gw3 := Lib.hid (grown_trans HG0.out hgw3); clear hgw3))
    | (go_at_call 11; ((with_reducible refine (HW.out _ Gw3.out).mono ?_); rintro e w4 ⟨rfl, hgw4⟩; have Gw4 := Lib.hid (grown_trans Gw3.out hgw4); clear hgw4)))
  go_ret
  exact ⟨rfl, Gw4.out⟩
set_option maxHeartbeats 1000000 in
theorem copies_no (c : Cfg) (ad adp : Option Addr) (len cap lenp capp : Nat) (w : World) (hT : Tab w) (hK : TabK w) (h0 : len ≤ 100) (h : lenp ≤ 100) (hm : ¬ c.may) :
    Calls Tryd.prog 7 #[.agg c.cells, .slice ad len cap, .slice adp lenp capp] w fun e w' => e = .returned (.bool true) ∧ w.grownBy w' none := by
  have hd0 : decide ((100 : Int) < (len : Int)) = false := by simp; omega
  have hd : decide ((100 : Int) < (lenp : Int)) = false := by simp; omega
  have hg0 : w.grownBy (w.alloc (.cells c.cells 27)) none := grown_alloc (grown_refl _ _) _
  have HW : Hid (∀ w', w.grownBy w' none → _) := Lib.hid (fun w' h => works_any w' (hT.grown h) (hK.grown h))
  obtain ⟨c0, c1, c2, c3, c4, c5, c6, c7⟩ := cfg_at w c
  have HG0 := Lib.hid hg0
  have HA := Lib.hid (cfg_at w c)
  have HN : Hid (∀ w', w.grownBy w' none → _) := Lib.hid (fun w' h => own_bad200 c w' (hT.grown h) hm)
  clear hT hK h0 h hm hg0
  unfold Cfg.cells at HN HG0 HW HA c0 c1 c2 c3 c4 c5 c6 c7 ⊢
  go_enter Tryd.func7, Tryd.ntmps7
  go_wp2_with (first
    | (go_at_call 11; ((with_reducible refine (HW.out _ HG0.out).mono ?_); rintro e w3 ⟨rfl, hg3⟩; obtain ⟨d0, d1, d2, d3, d4, d5, d6, d7⟩ := HA.out.grown hg3; have Gw3 := Lib.hid (grown_trans HG0.out hg3); clear hg3))
    | (go_at_call 9; ((with_reducible refine (HN.out _ Gw3.out).mono ?_); rintro e w2 ⟨rfl, hg2⟩; have HG2 := Lib.hid (grown_trans Gw3.out hg2); clear hg2))
    | (go_at_call 11; ((with_reducible refine (HW.out _ HG2.out).mono ?_); rintro e w4 ⟨rfl, hgw4⟩; have Gw4 := Lib.hid (grown_trans HG2.out hgw4); clear hgw4)))
  go_ret
  exact ⟨rfl, Gw4.out⟩

set_option maxRecDepth 1000000 in
set_option maxHeartbeats 8000000 in
theorem copies_some (c : Cfg) (os : List Nt) (ps : List Int) (ad adp : Option Addr) (len cap lenp capp : Nat) (w : World) (hT : Tab w) (hK : TabK w) (hlen : len = os.length) (hat : NotesAt w ad os) (hlenp : lenp = ps.length) (hatp : IntsAt w adp ps) (h0 : len ≤ 100) (h : lenp ≤ 100) (hm : c.may) :
    Calls Tryd.prog 7 #[.agg c.cells, .slice ad len cap, .slice adp lenp capp] w fun e w' => e = .returned (.bool true) ∧ w.grownBy w' none := by
  have hd0 : decide ((100 : Int) < (len : Int)) = false := by simp; omega
  have hd : decide ((100 : Int) < (lenp : Int)) = false := by simp; omega
  have hg0 : w.grownBy (w.alloc (.cells c.cells 27)) none := grown_alloc (grown_refl _ _) _
  have HW : Hid (∀ w', w.grownBy w' none → _) := Lib.hid (fun w' h => works_any w' (hT.grown h) (hK.grown h))
  obtain ⟨c0, c1, c2, c3, c4, c5, c6, c7⟩ := cfg_at w c
  have HG0 := Lib.hid hg0
  have HA := Lib.hid (cfg_at w c)
  have HN : Hid (∀ w', w.grownBy w' none → _) := Lib.hid (fun w' h => own_new200 c w' (hT.grown h) hm)
  have HT := Lib.hid hT
  have HK := Lib.hid hK
  have HAT := Lib.hid (fun w' (h : w.grownBy w' none) => hat.grown h)
  have HATP := Lib.hid (fun w' (h : w.grownBy w' none) => hatp.grown h)
  have HL := Lib.hid hlen
  have HLP := Lib.hid hlenp
  have HLEN := Lib.hid h0
  have HLENP := Lib.hid h
  clear hT hK hm hg0 hat hlen hatp hlenp
  unfold Cfg.cells at HN HG0 HW HA c0 c1 c2 c3 c4 c5 c6 c7 ⊢
  go_enter Tryd.func7, Tryd.ntmps7
  go_wp2_with (first
    | (go_at_call 11; ((with_reducible refine (HW.out _ HG0.out).mono ?_); rintro e w3 ⟨rfl, hg3⟩; obtain ⟨d0, d1, d2, d3, d4, d5, d6, d7⟩ := HA.out.grown hg3; have Gw3 := Lib.hid (grown_trans HG0.out hg3); clear hg3))
    | (go_at_call 9; ((with_reducible refine (HN.out _ Gw3.out).mono ?_); rintro e w2 ⟨t, p, rfl, ho2⟩; have H2 := Lib.hid (ho2.from Gw3.out); clear ho2 c0 c1 c2 c3 c4 c5 c6 c7 d0 d1 d2 d3 d4 d5 d6 d7)))
  clear HN HA
  go_loopw [39] (fun i wr => ∃ (j : Nat) (v : Value) (ns : List Nt), j ≤ len ∧ i = .int .i64 (j : Int) ∧ Own w wr t p c 200 v ns 0) (fun i _ => len - (intOf i).toNat)
  case atStart => exact ⟨0, _, [], Nat.zero_le _, rfl, H2.out⟩
  case round =>
    clear H2
    obtain ⟨j, v, ns, hj, rfl, ho⟩ := hrel
    have HO := Lib.hid ho
    have hj100 : j ≤ 100 := by have := HLEN.out; omega
    clear ho
    by_cases hlt : j < len
    · obtain ⟨n, hn⟩ : ∃ n, os[j]? = some n := ⟨_, List.getElem?_eq_getElem (by have := HL.out; omega)⟩
      obtain ⟨b, off, rfl, hr⟩ := HAT.out _ HO.out.old j n hn
      have HR := Lib.hid hr
      have HO1 := Lib.hid (HO.out.grown (w' := wr.alloc (.cells (na n) 37)) (grown_alloc (grown_refl _ _) _))
      have HX : Hid ((wr.alloc (.cells (na n) 37)).rangeAt wr.heap.size 0 (nt n)) := Lib.hid (range_of (heap_alloc_new _ _))
      have HSD := Lib.hid (own_send HT.out HK.out HO1.out n)
      clear hn hr
      go_wp2_with (first
        | ((with_reducible refine load_na n _ b (off + j * 24) ?_ HR.out ?_); (rfl))
        | ((with_reducible refine store_new n _ _ _ ?_ ?_ ?_ ?_); (rfl); (rfl); (rfl))
        | ((with_reducible refine load_nt n _ wr.heap.size ?_ HX.out ?_); (rfl))
        | (go_at_call 12; ((with_reducible refine HSD.out.mono ?_); rintro e w4 ⟨rfl, v4, ho4, ht4⟩; have HO4 := Lib.hid ho4; clear ho4 ht4)))
      go_roundw
      case rel => exact ⟨j + 1, _, _, by omega, by go_num, HO4.out⟩
      case measure => simp [intOf]; omega
    · have HBC : Hid ((wr.alloc (.cells #[.pointer (some ⟨t, 0, none⟩)] 22)).cell? ⟨wr.heap.size, 0, none⟩ = some (.pointer (some ⟨t, 0, none⟩))) := Lib.hid ((cell_of_row _ _ _ _ _ _ (heap_alloc_new _ _)).trans rfl)
      have HO1 := Lib.hid (HO.out.grown (w' := wr.alloc (.cells #[.pointer (some ⟨t, 0, none⟩)] 22)) (grown_alloc (grown_refl _ _) _))
      have HCL := Lib.hid (collect_any t p 200 c v ns 0 wr.heap.size _ HO1.out.net HBC.out)
      have HL6 := Lib.hid (len_64k HO.out.net.inv)
      clear hj hj100
      go_wp2_with (first
        | (go_at_call 26; ((with_reducible refine (nall_any t _).mono ?_); rintro e wa ⟨rfl, rfl⟩))
        | (go_at_call 25; ((with_reducible refine HCL.out.mono ?_); rintro e wc ⟨us, rfl, hu1, hu2, hu3⟩; have HOC := Lib.hid (HO1.out.grown hu3); have HU := Lib.hid hu1; clear hu1 hu2 hu3))
        | (go_at_call 15; ((with_reducible refine (own_hops HOC.out).mono ?_); rintro e w6 ⟨rfl, rfl⟩))
        | (go_at_call 19; ((with_reducible refine (own_copy HOC.out).mono ?_); rintro e wd ⟨t2, p2, v2, rfl, ho2⟩; have H2 := Lib.hid ho2; clear ho2)))
      have HTC := Lib.hid (HT.out.grown HOC.out.old)
      have HKC := Lib.hid (HK.out.grown HOC.out.old)
      go_loopw [56] (fun i wr => ∃ (j : Nat) (v : Value) (ns : List Nt) (h : Int), j ≤ lenp ∧ i = .int .i64 (j : Int) ∧ (0 ≤ h ∧ h ≤ 8 * (j : Int)) ∧ Own wc wr t2 p2 c 200 v ns h) (fun i _ => lenp - (intOf i).toNat)
      case atStart => exact ⟨0, _, _, _, Nat.zero_le _, rfl, ⟨by omega, by omega⟩, H2.out⟩
      case round =>
        clear H2
        obtain ⟨j, v3, ns3, h3, hj, rfl, hhb, ho⟩ := hrel
        have HO3 := Lib.hid ho
        have HHB := Lib.hid hhb
        have hj100 : j ≤ 100 := by have := HLENP.out; omega
        clear ho hhb
        by_cases hlt : j < lenp
        · obtain ⟨pl, hpl⟩ : ∃ pl, ps[j]? = some pl := ⟨_, List.getElem?_eq_getElem (by have := HLP.out; omega)⟩
          obtain ⟨bp, op, rfl, hrp⟩ := HATP.out _ (grown_trans HOC.out.old HO3.out.old) j pl hpl
          clear hpl
          by_cases hin : 0 ≤ pl ∧ pl < (ns3.length : Int)
          · obtain ⟨k, rfl⟩ : ∃ k : Nat, pl = (k : Int) := ⟨pl.toNat, by omega⟩
            obtain ⟨x, hx⟩ : ∃ x, ns3[k]? = some x := ⟨_, List.getElem?_eq_getElem (by omega)⟩
            have HTK := Lib.hid (own_take HO3.out k x hx HHB.out.1 (by have := HHB.out.2; omega))
            have HF7 := Lib.hid (far_bounds (HO3.out.net.inv.all x (List.mem_of_getElem? hx)).1)
            clear hx hin
            go_wp2_with (go_at_call 14; ((with_reducible refine HTK.out.mono ?_); rintro e w4 ⟨rfl, v4, ho4, ht4⟩; have HO4 := Lib.hid ho4; clear ho4 ht4))
            go_roundw
            case rel => exact ⟨j + 1, _, _, _, by omega, by go_num, ⟨by have := HF7.out; have := HHB.out; omega, by have := HF7.out; have := HHB.out; omega⟩, HO4.out⟩
            case measure => simp [intOf]; omega
          · have HTK := Lib.hid (own_take_out HO3.out pl (by omega))
            clear hin
            go_wp2_with (go_at_call 14; ((with_reducible refine HTK.out.mono ?_); rintro e w4 ⟨rfl, hg4⟩; have HO4 := Lib.hid (HO3.out.grown hg4); clear hg4))
            go_roundw
            case rel => exact ⟨j + 1, _, _, _, by omega, by go_num, ⟨by have := HHB.out; omega, by have := HHB.out; omega⟩, HO4.out⟩
            case measure => simp [intOf]; omega
        · clear hj hj100
          go_wp2_with fail
          go_loopw [66] (fun i wr => ∃ (j : Nat) (v : Value) (ns : List Nt), j ≤ len ∧ i = .int .i64 (j : Int) ∧ Own wc wr t2 p2 c 200 v ns h3) (fun i _ => len - (intOf i).toNat)
          case atStart => exact ⟨0, _, _, Nat.zero_le _, rfl, HO3.out⟩
          case round =>
            clear HO3 HHB
            obtain ⟨j, v5, ns5, hj, rfl, ho⟩ := hrel
            have HO5 := Lib.hid ho
            have hj100 : j ≤ 100 := by have := HLEN.out; omega
            clear ho
            by_cases hlt : j < len
            · obtain ⟨n, hn⟩ : ∃ n, os[j]? = some n := ⟨_, List.getElem?_eq_getElem (by have := HL.out; omega)⟩
              obtain ⟨b, off, rfl, hr⟩ := HAT.out _ (grown_trans HOC.out.old HO5.out.old) j n hn
              have HR := Lib.hid hr
              have HO6 := Lib.hid (HO5.out.grown (w' := wr.alloc (.cells (na n) 37)) (grown_alloc (grown_refl _ _) _))
              have HX : Hid ((wr.alloc (.cells (na n) 37)).rangeAt wr.heap.size 0 (nt n)) := Lib.hid (range_of (heap_alloc_new _ _))
              have HSD := Lib.hid (own_send HTC.out HKC.out HO6.out n)
              clear hn hr
              go_wp2_with (first
                | ((with_reducible refine load_na n _ b (off + j * 24) ?_ HR.out ?_); (rfl))
                | ((with_reducible refine store_new n _ _ _ ?_ ?_ ?_ ?_); (rfl); (rfl); (rfl))
                | ((with_reducible refine load_nt n _ wr.heap.size ?_ HX.out ?_); (rfl))
                | (go_at_call 12; ((with_reducible refine HSD.out.mono ?_); rintro e w7 ⟨rfl, v7, ho7, ht7⟩; have HO7 := Lib.hid ho7; clear ho7 ht7)))
              go_roundw
              case rel => exact ⟨j + 1, _, _, by omega, by go_num, HO7.out⟩
              case measure => simp [intOf]; omega
            · have HOE := Lib.hid (HOC.out.grown HO5.out.old)
              have HBE : Hid ((wr.alloc (.cells #[.pointer (some ⟨t, 0, none⟩)] 22)).cell? ⟨wr.heap.size, 0, none⟩ = some (.pointer (some ⟨t, 0, none⟩))) := Lib.hid ((cell_of_row _ _ _ _ _ _ (heap_alloc_new _ _)).trans rfl)
              have HOF := Lib.hid (HOE.out.grown (w' := wr.alloc (.cells #[.pointer (some ⟨t, 0, none⟩)] 22)) (grown_alloc (grown_refl _ _) _))
              have HUF := Lib.hid ((HU.out.grown HO5.out.old).grown (w' := wr.alloc (.cells #[.pointer (some ⟨t, 0, none⟩)] 22)) (grown_alloc (grown_refl _ _) _))
              have HCE := Lib.hid (collect_any t p 200 c v ns 0 wr.heap.size _ HOF.out.net HBE.out)
              obtain ⟨adu, capu, rfl⟩ := HU.out.form
              clear hj hj100
              go_wp2_with (first
                | (go_at_call 26; ((with_reducible refine (nall_any t _).mono ?_); rintro e wf ⟨rfl, rfl⟩))
                | (go_at_call 25; ((with_reducible refine HCE.out.mono ?_); rintro e wg ⟨ue, rfl, hu1, hu2, hu3⟩; have HOG := Lib.hid (HOF.out.grown hu3); have HUG := Lib.hid hu1; have HUH := Lib.hid (HUF.out.grown hu3); clear hu1 hu2 hu3))
                | (go_at_call 24; ((with_reducible refine (equal_yes _ _ ns wg HUG.out HUH.out HL6.out).mono ?_); rintro e wh ⟨rfl, hgh⟩; have HOH := Lib.hid (HOG.out.grown hgh); clear hgh))
                | (go_at_call 15; ((with_reducible refine (own_hops HOH.out).mono ?_); rintro e w6 ⟨rfl, rfl⟩))
                | (go_at_call 17; ((with_reducible refine (own_len HOH.out).mono ?_); rintro e w6 ⟨rfl, rfl⟩))
                | (go_at_call 11; ((with_reducible refine (HW.out _ HOH.out.old).mono ?_); rintro e wz ⟨rfl, hgwz⟩; have Gwz := Lib.hid (grown_trans HOH.out.old hgwz); clear hgwz)))
              go_ret
              exact ⟨rfl, Gwz.out⟩
theorem copies_true (c : Cfg) (os : List Nt) (ps : List Int) (ad adp : Option Addr) (len cap lenp capp : Nat) (w : World) (hT : Tab w) (hK : TabK w) (hlen : len = os.length) (hat : NotesAt w ad os) (hlenp : lenp = ps.length) (hatp : IntsAt w adp ps) :
    Calls Tryd.prog 7 #[.agg c.cells, .slice ad len cap, .slice adp lenp capp] w fun e w' => e = .returned (.bool true) ∧ w.grownBy w' none := by
  by_cases h : 100 < len
  · exact copies_long1 c ad adp len cap lenp capp w hT hK h
  · by_cases h2 : 100 < lenp
    · exact copies_long2 c ad adp len cap lenp capp w hT hK (by omega) h2
    · by_cases hm : c.may
      · exact copies_some c os ps ad adp len cap lenp capp w hT hK hlen hat hlenp hatp (by omega) (by omega) hm
      · exact copies_no c ad adp len cap lenp capp w hT hK (by omega) (by omega) hm
end Go.Proofs.YtoemkhmbeiindaaDoor.tt
