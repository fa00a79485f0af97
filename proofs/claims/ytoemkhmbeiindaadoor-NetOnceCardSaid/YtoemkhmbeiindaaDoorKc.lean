/-
  The law NetOnce returns true: the walk. Condition: the tables of bounds and of kinds lie in their variables as the program's text has them; that the notes and the picks lie where the arguments say.
-/
import Derived.Test.YtoemkhmbeiindaaDoorKb0
namespace Go.Proofs.YtoemkhmbeiindaaDoor.tt
open Go Go.ChangeShapes Go.WideShapes Go.ChangeAt Go.RowKit Go.Shelf
set_option linter.unusedVariables false

set_option maxHeartbeats 1000000 in
theorem once_long1 (c : Cfg) (ad adp : Option Addr) (len cap lenp capp : Nat) (w : World) (hT : Tab w) (hK : TabK w) (h : 100 < len) :
    Calls Tryd.prog 5 #[.agg c.cells, .slice ad len cap, .slice adp lenp capp] w fun e w' => e = .returned (.bool true) ∧ w.grownBy w' none := by
  have hd : decide ((100 : Int) < (len : Int)) = true := by simp; omega
  have hg0 : w.grownBy (w.alloc (.cells c.cells 27)) none := grown_alloc (grown_refl _ _) _
  have HW := Lib.hid (works_any _ (hT.grown hg0) (hK.grown hg0))
  have HG0 := Lib.hid hg0
  clear hT hK h hg0
  unfold Cfg.cells at *
  go_enter Tryd.func5, Tryd.ntmps5
  go_wp2_with (go_at_call 11; ((refine HW.out.mono ?_); rintro e w3 ⟨rfl, hg3⟩; have HG3 := Lib.hid hg3; clear hg3))
  go_ret
  exact ⟨rfl, grown_trans HG0.out HG3.out⟩
set_option maxHeartbeats 1000000 in
theorem once_long2 (c : Cfg) (ad adp : Option Addr) (len cap lenp capp : Nat) (w : World) (hT : Tab w) (hK : TabK w) (h0 : len ≤ 100) (h : 300 < lenp) :
    Calls Tryd.prog 5 #[.agg c.cells, .slice ad len cap, .slice adp lenp capp] w fun e w' => e = .returned (.bool true) ∧ w.grownBy w' none := by
  have hd0 : decide ((100 : Int) < (len : Int)) = false := by simp; omega
  have hd : decide ((300 : Int) < (lenp : Int)) = true := by simp; omega
  have hg0 : w.grownBy (w.alloc (.cells c.cells 27)) none := grown_alloc (grown_refl _ _) _
  have HW := Lib.hid (works_any _ (hT.grown hg0) (hK.grown hg0))
  have HG0 := Lib.hid hg0
  clear hT hK h0 h hg0
  unfold Cfg.cells at *
  go_enter Tryd.func5, Tryd.ntmps5
  go_wp2_with (go_at_call 11; ((refine HW.out.mono ?_); rintro e w3 ⟨rfl, hg3⟩; have HG3 := Lib.hid hg3; clear hg3))
  go_ret
  exact ⟨rfl, grown_trans HG0.out HG3.out⟩
set_option maxHeartbeats 1000000 in
theorem once_no (c : Cfg) (ad adp : Option Addr) (len cap lenp capp : Nat) (w : World) (hT : Tab w) (hK : TabK w) (h0 : len ≤ 100) (h : lenp ≤ 300) (hm : ¬ c.may) :
    Calls Tryd.prog 5 #[.agg c.cells, .slice ad len cap, .slice adp lenp capp] w fun e w' => e = .returned (.bool true) ∧ w.grownBy w' none := by
  have hd0 : decide ((100 : Int) < (len : Int)) = false := by simp; omega
  have hd : decide ((300 : Int) < (lenp : Int)) = false := by simp; omega
  have hg0 : w.grownBy (w.alloc (.cells c.cells 27)) none := grown_alloc (grown_refl _ _) _
  have HN := Lib.hid (own_bad200 c _ (hT.grown hg0) hm)
  have HW : Hid (∀ w', (w.alloc (.cells c.cells 27)).grownBy w' none → _) := Lib.hid (fun w' h => works_any w' (hT.grown (grown_trans hg0 h)) (hK.grown (grown_trans hg0 h)))
  obtain ⟨c0, c1, c2, c3, c4, c5, c6, c7⟩ := cfg_at w c
  have HG0 := Lib.hid hg0
  clear hT hK h0 h hm hg0
  unfold Cfg.cells at *
  go_enter Tryd.func5, Tryd.ntmps5
  go_wp2_with (first
    | (go_at_call 9; ((with_reducible refine HN.out.mono ?_); rintro e w2 ⟨rfl, hg2⟩; have HG2 := Lib.hid hg2; clear hg2))
    | (go_at_call 11; ((refine (HW.out _ HG2.out).mono ?_); rintro e w3 ⟨rfl, hg3⟩; have HG3 := Lib.hid hg3; clear hg3)))
  go_ret
  exact ⟨rfl, grown_trans HG0.out (grown_trans HG2.out HG3.out)⟩

set_option maxRecDepth 1000000 in
set_option maxHeartbeats 8000000 in
theorem once_some (c : Cfg) (os : List Nt) (ps : List Int) (ad adp : Option Addr) (len cap lenp capp : Nat) (w : World) (hT : Tab w) (hK : TabK w) (hlen : len = os.length) (hat : NotesAt w ad os) (hlenp : lenp = ps.length) (hatp : IntsAt w adp ps) (h0 : len ≤ 100) (h : lenp ≤ 300) (hm : c.may) :
    Calls Tryd.prog 5 #[.agg c.cells, .slice ad len cap, .slice adp lenp capp] w fun e w' => e = .returned (.bool true) ∧ w.grownBy w' none := by
  obtain ⟨i0, hi, hz0, hz1, hz2⟩ := info_parts infoN
  have hd0 : decide ((100 : Int) < (len : Int)) = false := by simp; omega
  have hd : decide ((300 : Int) < (lenp : Int)) = false := by simp; omega
  have hg0 : w.grownBy (w.alloc (.cells c.cells 27)) none := grown_alloc (grown_refl _ _) _
  have HN := Lib.hid (own_new200 c _ (hT.grown hg0) hm)
  have HW : Hid (∀ w', w.grownBy w' none → _) := Lib.hid (fun w' h => works_any w' (hT.grown h) (hK.grown h))
  obtain ⟨c0, c1, c2, c3, c4, c5, c6, c7⟩ := cfg_at w c
  have HT := Lib.hid hT
  have HK := Lib.hid hK
  have HG0 := Lib.hid hg0
  have HAT := Lib.hid (fun w' (h : w.grownBy w' none) => hat.grown h)
  have HATP := Lib.hid (fun w' (h : w.grownBy w' none) => hatp.grown h)
  have HL := Lib.hid hlen
  have HLP := Lib.hid hlenp
  have HLEN := Lib.hid h0
  clear hT hK hm hg0 hat hlen hatp hlenp
  unfold Cfg.cells at HN HG0 c0 c1 c2 c3 c4 c5 c6 c7 ⊢
  go_enter Tryd.func5, Tryd.ntmps5
  go_wp2_with (first
    | (go_at_call 9; ((with_reducible refine HN.out.mono ?_); rintro e w2 ⟨t, p, rfl, ho2⟩; have H2 := Lib.hid (ho2.from HG0.out); clear ho2 c0 c1 c2 c3 c4 c5 c6 c7)))
  clear HN
  go_loopw [33, 9] (fun i sv wr => ∃ (j : Nat) (v : Value) (ns : List Nt) (hh : Int), j ≤ len ∧ ns.length ≤ j ∧ i = .int .i64 (j : Int) ∧ (0 ≤ hh ∧ hh ≤ 8 * (j : Int)) ∧ Own w wr t p c 200 v ns hh ∧ Beside w wr v sv ns) (fun i _ _ => len - (intOf i).toNat)
  case atStart => exact ⟨0, _, [], 0, Nat.zero_le _, Nat.le_refl _, rfl, ⟨by omega, by omega⟩, H2.out, Beside.nil _ _ _⟩
  case round =>
    clear H2
    obtain ⟨j, v, ns, hh, hj, hnj, rfl, hhb, ho, hs⟩ := hrel
    have HO := Lib.hid ho
    have HS := Lib.hid hs
    have HNJ := Lib.hid hnj
    have HHB := Lib.hid hhb
    clear ho hs hnj hhb
    by_cases hlt : j < len
    · obtain ⟨n, hn⟩ : ∃ n, os[j]? = some n := ⟨_, List.getElem?_eq_getElem (by have := HL.out; omega)⟩
      obtain ⟨b, off, rfl, hr⟩ := HAT.out _ HO.out.old j n hn
      have HR := Lib.hid hr
      have hga : wr.grownBy (wr.alloc (.cells (na n) 37)) none := grown_alloc (grown_refl _ _) _
      have HO1 := Lib.hid (HO.out.grown hga)
      have HS1 := Lib.hid (HS.out.grown hga)
      have HX : Hid ((wr.alloc (.cells (na n) 37)).rangeAt wr.heap.size 0 (nt n)) := Lib.hid (range_of (heap_alloc_new _ _))
      have HNE := Lib.hid (HO.out.ne wr.heap.size (Nat.le_refl _))
      clear hn hr hga
      have hj100 : j < 100 := by have := HLEN.out; omega
      by_cases hsd : fits c n ∧ many ns n.t (net n.k) < 200
      · have HSD := Lib.hid (own_send_yes HT.out HK.out HO1.out n hsd)
        have hnsz := na_size n
        have hfd := build_na n
        clear hsd
        by_cases hjp : j < lenp
        · obtain ⟨pl, hpl⟩ : ∃ pl, ps[j]? = some pl := ⟨_, List.getElem?_eq_getElem (by have := HLP.out; omega)⟩
          obtain ⟨bp, op, rfl, hrp⟩ := HATP.out _ HO.out.old j pl hpl
          have HPC : Hid (∀ w', w.grownBy w' none → w'.cell? ⟨bp, op + j, none⟩ = some (.int .i64 pl)) := Lib.hid (fun w' h => by obtain ⟨b1, o1, e1, h1⟩ := HATP.out w' h j pl hpl; cases e1; exact h1)
          clear hrp hpl
          by_cases h3 : pl.tmod 3 = 0
          · obtain ⟨q5, hq5⟩ : ∃ q5, q5 = (ns ++ [n]).length := ⟨_, rfl⟩
            have HQ5 := Lib.hid hq5
            have h3t : (pl.tmod 3 == 0) = true := by simp [h3]
            clear hq5 h3
            by_cases hz5 : q5 = 0
            · have hz5d : decide ((0 : Int) < (q5 : Int)) = false := by simp; omega
              go_wp2_with (first
                | ((with_reducible refine load_na n _ b (off + j * 24) ?_ HR.out ?_); (rfl))
                | ((with_reducible refine store_new n _ _ _ ?_ ?_ ?_ ?_); (rfl); (rfl); (rfl))
                | ((with_reducible refine load_nt n _ wr.heap.size ?_ HX.out ?_); (rfl))
                | (go_at_call 12; ((with_reducible refine HSD.out.mono ?_); rintro e w4 ⟨rfl, v4, ho4, ht4⟩; have hgb : w4.grownBy (w4.alloc (.cells (na n) 37)) none := grown_alloc (grown_refl _ _) _; have HO4 := Lib.hid (ho4.grown hgb); have HS4 := Lib.hid ((HS1.out.turn HO1.out.net ht4).grown hgb); have HX4 := Lib.hid (ht4.range HX.out (by simp) HNE.out); clear ho4 ht4 hgb))
                | ((with_reducible refine load_nt n _ wr.heap.size ?_ HX4.out ?_); (rfl))
                | ((with_reducible refine append_sl 50 37 24 i0 (.agg (na zn)) 112 _ _ Tryd.underlying50 hi hz0 hz1 hz2 zn_cells _ ns.length (flat nt ns) ?_ HS4.out.sl (.slice (some ⟨w4.heap.size, 0, none⟩) 1 1) 1 (nt n) ?_ (src_one' _ w4.heap.size (na n) _ (nt n) 24 Tryd.underlying50 (heap_alloc_new _ _) rfl (nt_len n) (nt_one n)) ?_ ?_ ?_); (rfl); (rfl); (have := HNJ.out; unfold maxLen; omega); (have := HNJ.out; omega); (intro v5 w5 hsl hgr hnx; have HO5 := Lib.hid (HO4.out.append HS4.out hgr); have HS5 := Lib.hid (HS4.out.next HO4.out hnx (snoc_sl hsl)); have hpc := HPC.out w5 HO5.out.old; clear hsl hgr hnx))
                | (go_at_call 17; ((with_reducible refine (by have := own_len HO5.out; rw [← HQ5.out] at this; exact this : Calls Tryd.prog 17 #[.pointer (some ⟨t, 0, none⟩)] w5 fun e w' => e = .returned (.int .i64 (q5 : Int)) ∧ w5 = w').mono ?_); rintro e w6 ⟨rfl, rfl⟩)))
              go_roundw
              case rel => exact ⟨j + 1, _, _, _, by omega, (by have := HNJ.out; simp; omega), by go_num, ⟨by have := HHB.out; omega, by have := HHB.out; omega⟩, HO5.out, HS5.out⟩
              case measure => simp [intOf]; omega
            · have hz5d : decide ((0 : Int) < (q5 : Int)) = true := by simp; omega
              go_wp2_with (first
                | ((with_reducible refine load_na n _ b (off + j * 24) ?_ HR.out ?_); (rfl))
                | ((with_reducible refine store_new n _ _ _ ?_ ?_ ?_ ?_); (rfl); (rfl); (rfl))
                | ((with_reducible refine load_nt n _ wr.heap.size ?_ HX.out ?_); (rfl))
                | (go_at_call 12; ((with_reducible refine HSD.out.mono ?_); rintro e w4 ⟨rfl, v4, ho4, ht4⟩; have hgb : w4.grownBy (w4.alloc (.cells (na n) 37)) none := grown_alloc (grown_refl _ _) _; have HO4 := Lib.hid (ho4.grown hgb); have HS4 := Lib.hid ((HS1.out.turn HO1.out.net ht4).grown hgb); have HX4 := Lib.hid (ht4.range HX.out (by simp) HNE.out); clear ho4 ht4 hgb))
                | ((with_reducible refine load_nt n _ wr.heap.size ?_ HX4.out ?_); (rfl))
                | ((with_reducible refine append_sl 50 37 24 i0 (.agg (na zn)) 112 _ _ Tryd.underlying50 hi hz0 hz1 hz2 zn_cells _ ns.length (flat nt ns) ?_ HS4.out.sl (.slice (some ⟨w4.heap.size, 0, none⟩) 1 1) 1 (nt n) ?_ (src_one' _ w4.heap.size (na n) _ (nt n) 24 Tryd.underlying50 (heap_alloc_new _ _) rfl (nt_len n) (nt_one n)) ?_ ?_ ?_); (rfl); (rfl); (have := HNJ.out; unfold maxLen; omega); (have := HNJ.out; omega); (intro v5 w5 hsl hgr hnx; have HO5 := Lib.hid (HO4.out.append HS4.out hgr); have HS5 := Lib.hid (HS4.out.next HO4.out hnx (snoc_sl hsl)); have hpc := HPC.out w5 HO5.out.old; clear hsl hgr hnx))
                | (go_at_call 17; ((with_reducible refine (by have := own_len HO5.out; rw [← HQ5.out] at this; exact this : Calls Tryd.prog 17 #[.pointer (some ⟨t, 0, none⟩)] w5 fun e w' => e = .returned (.int .i64 (q5 : Int)) ∧ w5 = w').mono ?_); rintro e w6 ⟨rfl, rfl⟩))
                | (go_at_call 27; ((with_reducible refine (took_any w t p 200 c _ _ (ns ++ [n]) hh pl _ HO5.out HS5.out (by have := HQ5.out; omega) HHB.out.1 (by have := HHB.out.2; omega)).mono ?_); rintro e w7 ⟨k7, x7, u7, v7, hx7, rfl, ho7, hs7⟩; have HO7 := Lib.hid ho7; have HS7 := Lib.hid hs7; have HX7 := Lib.hid hx7; have HF7 := Lib.hid (far_bounds (HO5.out.net.inv.all x7 (List.mem_of_getElem? hx7)).1); clear ho7 hs7 hx7)))
              go_roundw
              case rel => exact ⟨j + 1, _, _, _, by omega, (by have h1 := HNJ.out; have h2 := List.length_eraseIdx_le (ns ++ [n]) k7; (try simp at h2); omega), by go_num, ⟨by have := HF7.out; have := HHB.out; omega, by have := HF7.out; have := HHB.out; omega⟩, HO7.out, HS7.out⟩
              case measure => simp [intOf]; omega
          · have h3t : (pl.tmod 3 == 0) = false := by simp [h3]
            clear h3
            go_wp2_with (first
              | ((with_reducible refine load_na n _ b (off + j * 24) ?_ HR.out ?_); (rfl))
              | ((with_reducible refine store_new n _ _ _ ?_ ?_ ?_ ?_); (rfl); (rfl); (rfl))
              | ((with_reducible refine load_nt n _ wr.heap.size ?_ HX.out ?_); (rfl))
              | (go_at_call 12; ((with_reducible refine HSD.out.mono ?_); rintro e w4 ⟨rfl, v4, ho4, ht4⟩; have hgb : w4.grownBy (w4.alloc (.cells (na n) 37)) none := grown_alloc (grown_refl _ _) _; have HO4 := Lib.hid (ho4.grown hgb); have HS4 := Lib.hid ((HS1.out.turn HO1.out.net ht4).grown hgb); have HX4 := Lib.hid (ht4.range HX.out (by simp) HNE.out); clear ho4 ht4 hgb))
              | ((with_reducible refine load_nt n _ wr.heap.size ?_ HX4.out ?_); (rfl))
              | ((with_reducible refine append_sl 50 37 24 i0 (.agg (na zn)) 112 _ _ Tryd.underlying50 hi hz0 hz1 hz2 zn_cells _ ns.length (flat nt ns) ?_ HS4.out.sl (.slice (some ⟨w4.heap.size, 0, none⟩) 1 1) 1 (nt n) ?_ (src_one' _ w4.heap.size (na n) _ (nt n) 24 Tryd.underlying50 (heap_alloc_new _ _) rfl (nt_len n) (nt_one n)) ?_ ?_ ?_); (rfl); (rfl); (have := HNJ.out; unfold maxLen; omega); (have := HNJ.out; omega); (intro v5 w5 hsl hgr hnx; have HO5 := Lib.hid (HO4.out.append HS4.out hgr); have HS5 := Lib.hid (HS4.out.next HO4.out hnx (snoc_sl hsl)); have hpc := HPC.out w5 HO5.out.old; clear hsl hgr hnx)))
            go_roundw
            case rel => exact ⟨j + 1, _, _, _, by omega, (by have := HNJ.out; simp; omega), by go_num, ⟨by have := HHB.out; omega, by have := HHB.out; omega⟩, HO5.out, HS5.out⟩
            case measure => simp [intOf]; omega
        · have hjd : decide ((j : Int) < (lenp : Int)) = false := by simp; omega
          go_wp2_with (first
            | ((with_reducible refine load_na n _ b (off + j * 24) ?_ HR.out ?_); (rfl))
            | ((with_reducible refine store_new n _ _ _ ?_ ?_ ?_ ?_); (rfl); (rfl); (rfl))
            | ((with_reducible refine load_nt n _ wr.heap.size ?_ HX.out ?_); (rfl))
            | (go_at_call 12; ((with_reducible refine HSD.out.mono ?_); rintro e w4 ⟨rfl, v4, ho4, ht4⟩; have hgb : w4.grownBy (w4.alloc (.cells (na n) 37)) none := grown_alloc (grown_refl _ _) _; have HO4 := Lib.hid (ho4.grown hgb); have HS4 := Lib.hid ((HS1.out.turn HO1.out.net ht4).grown hgb); have HX4 := Lib.hid (ht4.range HX.out (by simp) HNE.out); clear ho4 ht4 hgb))
            | ((with_reducible refine load_nt n _ wr.heap.size ?_ HX4.out ?_); (rfl))
            | ((with_reducible refine append_sl 50 37 24 i0 (.agg (na zn)) 112 _ _ Tryd.underlying50 hi hz0 hz1 hz2 zn_cells _ ns.length (flat nt ns) ?_ HS4.out.sl (.slice (some ⟨w4.heap.size, 0, none⟩) 1 1) 1 (nt n) ?_ (src_one' _ w4.heap.size (na n) _ (nt n) 24 Tryd.underlying50 (heap_alloc_new _ _) rfl (nt_len n) (nt_one n)) ?_ ?_ ?_); (rfl); (rfl); (have := HNJ.out; unfold maxLen; omega); (have := HNJ.out; omega); (intro v5 w5 hsl hgr hnx; have HO5 := Lib.hid (HO4.out.append HS4.out hgr); have HS5 := Lib.hid (HS4.out.next HO4.out hnx (snoc_sl hsl)); clear hsl hgr hnx)))
          go_roundw
          case rel => exact ⟨j + 1, _, _, _, by omega, (by have := HNJ.out; simp; omega), by go_num, ⟨by have := HHB.out; omega, by have := HHB.out; omega⟩, HO5.out, HS5.out⟩
          case measure => simp [intOf]; omega
      · obtain ⟨z, hz, hcall⟩ := own_send_no HT.out HK.out HO1.out n hsd
        have HSD := Lib.hid hcall
        clear hsd hcall
        by_cases hjp : j < lenp
        · obtain ⟨pl, hpl⟩ : ∃ pl, ps[j]? = some pl := ⟨_, List.getElem?_eq_getElem (by have := HLP.out; omega)⟩
          obtain ⟨bp, op, rfl, hrp⟩ := HATP.out _ HO.out.old j pl hpl
          have HPC : Hid (∀ w', w.grownBy w' none → w'.cell? ⟨bp, op + j, none⟩ = some (.int .i64 pl)) := Lib.hid (fun w' h => by obtain ⟨b1, o1, e1, h1⟩ := HATP.out w' h j pl hpl; cases e1; exact h1)
          clear hrp hpl
          by_cases h3 : pl.tmod 3 = 0
          · obtain ⟨q5, hq5⟩ : ∃ q5, q5 = ns.length := ⟨_, rfl⟩
            have HQ5 := Lib.hid hq5
            have h3t : (pl.tmod 3 == 0) = true := by simp [h3]
            clear hq5 h3
            by_cases hz5 : q5 = 0
            · have hz5d : decide ((0 : Int) < (q5 : Int)) = false := by simp; omega
              go_wp2_with (first
                | ((with_reducible refine load_na n _ b (off + j * 24) ?_ HR.out ?_); (rfl))
                | ((with_reducible refine store_new n _ _ _ ?_ ?_ ?_ ?_); (rfl); (rfl); (rfl))
                | ((with_reducible refine load_nt n _ wr.heap.size ?_ HX.out ?_); (rfl))
                | (go_at_call 12; ((with_reducible refine HSD.out.mono ?_); rintro e w4 ⟨rfl, v4, ho4, ht4⟩; have HO4 := Lib.hid ho4; have HS4 := Lib.hid (HS1.out.turn HO1.out.net ht4); have hpc := HPC.out w4 HO4.out.old; clear ho4 ht4))
                | (go_at_call 17; ((with_reducible refine (by have := own_len HO4.out; rw [← HQ5.out] at this; exact this : Calls Tryd.prog 17 #[.pointer (some ⟨t, 0, none⟩)] w4 fun e w' => e = .returned (.int .i64 (q5 : Int)) ∧ w4 = w').mono ?_); rintro e w6 ⟨rfl, rfl⟩)))
              go_roundw
              case rel => exact ⟨j + 1, _, _, _, by omega, (by have := HNJ.out; omega), by go_num, ⟨by have := HHB.out; omega, by have := HHB.out; omega⟩, HO4.out, HS4.out⟩
              case measure => simp [intOf]; omega
            · have hz5d : decide ((0 : Int) < (q5 : Int)) = true := by simp; omega
              go_wp2_with (first
                | ((with_reducible refine load_na n _ b (off + j * 24) ?_ HR.out ?_); (rfl))
                | ((with_reducible refine store_new n _ _ _ ?_ ?_ ?_ ?_); (rfl); (rfl); (rfl))
                | ((with_reducible refine load_nt n _ wr.heap.size ?_ HX.out ?_); (rfl))
                | (go_at_call 12; ((with_reducible refine HSD.out.mono ?_); rintro e w4 ⟨rfl, v4, ho4, ht4⟩; have HO4 := Lib.hid ho4; have HS4 := Lib.hid (HS1.out.turn HO1.out.net ht4); have hpc := HPC.out w4 HO4.out.old; clear ho4 ht4))
                | (go_at_call 17; ((with_reducible refine (by have := own_len HO4.out; rw [← HQ5.out] at this; exact this : Calls Tryd.prog 17 #[.pointer (some ⟨t, 0, none⟩)] w4 fun e w' => e = .returned (.int .i64 (q5 : Int)) ∧ w4 = w').mono ?_); rintro e w6 ⟨rfl, rfl⟩))
                | (go_at_call 27; ((with_reducible refine (took_any w t p 200 c _ _ ns hh pl _ HO4.out HS4.out (by have := HQ5.out; omega) HHB.out.1 (by have := HHB.out.2; omega)).mono ?_); rintro e w7 ⟨k7, x7, u7, v7, hx7, rfl, ho7, hs7⟩; have HO7 := Lib.hid ho7; have HS7 := Lib.hid hs7; have HX7 := Lib.hid hx7; have HF7 := Lib.hid (far_bounds (HO4.out.net.inv.all x7 (List.mem_of_getElem? hx7)).1); clear ho7 hs7 hx7)))
              go_roundw
              case rel => exact ⟨j + 1, _, _, _, by omega, (by have h1 := HNJ.out; have h2 := List.length_eraseIdx_le ns k7; (try simp at h2); omega), by go_num, ⟨by have := HF7.out; have := HHB.out; omega, by have := HF7.out; have := HHB.out; omega⟩, HO7.out, HS7.out⟩
              case measure => simp [intOf]; omega
          · have h3t : (pl.tmod 3 == 0) = false := by simp [h3]
            clear h3
            go_wp2_with (first
              | ((with_reducible refine load_na n _ b (off + j * 24) ?_ HR.out ?_); (rfl))
              | ((with_reducible refine store_new n _ _ _ ?_ ?_ ?_ ?_); (rfl); (rfl); (rfl))
              | ((with_reducible refine load_nt n _ wr.heap.size ?_ HX.out ?_); (rfl))
              | (go_at_call 12; ((with_reducible refine HSD.out.mono ?_); rintro e w4 ⟨rfl, v4, ho4, ht4⟩; have HO4 := Lib.hid ho4; have HS4 := Lib.hid (HS1.out.turn HO1.out.net ht4); have hpc := HPC.out w4 HO4.out.old; clear ho4 ht4)))
            go_roundw
            case rel => exact ⟨j + 1, _, _, _, by omega, (by have := HNJ.out; omega), by go_num, ⟨by have := HHB.out; omega, by have := HHB.out; omega⟩, HO4.out, HS4.out⟩
            case measure => simp [intOf]; omega
        · have hjd : decide ((j : Int) < (lenp : Int)) = false := by simp; omega
          go_wp2_with (first
            | ((with_reducible refine load_na n _ b (off + j * 24) ?_ HR.out ?_); (rfl))
            | ((with_reducible refine store_new n _ _ _ ?_ ?_ ?_ ?_); (rfl); (rfl); (rfl))
            | ((with_reducible refine load_nt n _ wr.heap.size ?_ HX.out ?_); (rfl))
            | (go_at_call 12; ((with_reducible refine HSD.out.mono ?_); rintro e w4 ⟨rfl, v4, ho4, ht4⟩; have HO4 := Lib.hid ho4; have HS4 := Lib.hid (HS1.out.turn HO1.out.net ht4); clear ho4 ht4)))
          go_roundw
          case rel => exact ⟨j + 1, _, _, _, by omega, (by have := HNJ.out; omega), by go_num, ⟨by have := HHB.out; omega, by have := HHB.out; omega⟩, HO4.out, HS4.out⟩
          case measure => simp [intOf]; omega
    · obtain ⟨m, hm⟩ : ∃ m, m = ns.length := ⟨_, rfl⟩
      have HM := Lib.hid hm
      have HM1 : Hid (m ≤ 100) := Lib.hid (by have := HNJ.out; have := HLEN.out; omega)
      have HH1 : Hid (0 ≤ hh ∧ hh ≤ 800) := Lib.hid ⟨HHB.out.1, by have := HHB.out.2; have := HLEN.out; omega⟩
      clear hm
      go_wp2_with fail
      go_loopw [12, 9] (fun i sv wr => ∃ (k : Nat) (v : Value) (ns : List Nt) (h : Int), ns.length + k = m ∧ i = .int .i64 (k : Int) ∧ (0 ≤ h ∧ h ≤ 800 + 8 * (k : Int)) ∧ Own w wr t p c 200 v ns h ∧ Beside w wr v sv ns) (fun i _ _ => m - (intOf i).toNat)
      case atStart => exact ⟨0, _, _, _, HM.out.symm, rfl, ⟨HH1.out.1, by have := HH1.out.2; omega⟩, HO.out, HS.out⟩
      case round =>
        clear HO HS HNJ HHB HM HH1
        obtain ⟨k, v, ns, h, hk, rfl, hhb, ho, hs⟩ := hrel
        have HO := Lib.hid ho
        have HS := Lib.hid hs
        have HHB := Lib.hid hhb
        obtain ⟨q, hq⟩ : ∃ q, q = ns.length := ⟨_, rfl⟩
        have HQ := Lib.hid hq
        have HLN : Hid (Calls Tryd.prog 17 #[.pointer (some ⟨t, 0, none⟩)] wr fun e w' => e = .returned (.int .i64 (q : Int)) ∧ wr = w') := Lib.hid (by have := own_len ho; rw [← hq] at this; exact this)
        rw [← hq] at hk
        have hm1 := HM1.out
        clear ho hs hhb hq
        by_cases hkq : q = 0
        · have hqd : decide ((0 : Int) < (q : Int)) = false := by simp; omega
          obtain ⟨ads, caps, rfl⟩ := HS.out.sl.form
          rw [← HQ.out]
          subst hkq
          go_wp2_with (first
            | (go_at_call 17; ((with_reducible refine HLN.out.mono ?_); rintro e w6 ⟨rfl, rfl⟩))
            | (go_at_call 11; ((refine (HW.out _ HO.out.old).mono ?_); rintro e w9 ⟨rfl, hg9⟩; have HG9 := Lib.hid (grown_trans HO.out.old hg9); clear hg9)))
          go_ret
          exact ⟨rfl, HG9.out⟩
        · have hqd : decide ((0 : Int) < (q : Int)) = true := by simp; omega
          by_cases hjp : k < lenp
          · obtain ⟨pl, hpl⟩ : ∃ pl, ps[k]? = some pl := ⟨_, List.getElem?_eq_getElem (by have := HLP.out; omega)⟩
            obtain ⟨bp, op, rfl, hrp⟩ := HATP.out _ HO.out.old k pl hpl
            clear hpl
            go_wp2_with (first
              | (go_at_call 17; ((with_reducible refine HLN.out.mono ?_); rintro e w6 ⟨rfl, rfl⟩))
              | (go_at_call 27; ((with_reducible refine (took_any w t p 200 c _ _ ns h pl _ HO.out HS.out (by have := HQ.out; omega) HHB.out.1 (by have := HHB.out.2; omega)).mono ?_); rintro e w7 ⟨k7, x7, u7, v7, hx7, rfl, ho7, hs7⟩; have HO7 := Lib.hid ho7; have HS7 := Lib.hid hs7; have HX7 : Hid (k7 < ns.length) := Lib.hid (List.getElem?_eq_some_iff.1 hx7).1; have HF7 := Lib.hid (far_bounds (HO.out.net.inv.all x7 (List.mem_of_getElem? hx7)).1); clear ho7 hs7 hx7)))
            go_roundw
            case rel => exact ⟨k + 1, _, _, _, (by rw [List.length_eraseIdx_of_lt HX7.out]; have := HQ.out; have := HX7.out; omega), by go_num, ⟨by have := HF7.out; have := HHB.out; omega, by have := HF7.out; have := HHB.out; omega⟩, HO7.out, HS7.out⟩
            case measure => simp [intOf]; omega
          · have hjd : decide ((k : Int) < (lenp : Int)) = false := by simp; omega
            go_wp2_with (first
              | (go_at_call 17; ((with_reducible refine HLN.out.mono ?_); rintro e w6 ⟨rfl, rfl⟩))
              | (go_at_call 27; ((with_reducible refine (took_any w t p 200 c _ _ ns h 0 _ HO.out HS.out (by have := HQ.out; omega) HHB.out.1 (by have := HHB.out.2; omega)).mono ?_); rintro e w7 ⟨k7, x7, u7, v7, hx7, rfl, ho7, hs7⟩; have HO7 := Lib.hid ho7; have HS7 := Lib.hid hs7; have HX7 : Hid (k7 < ns.length) := Lib.hid (List.getElem?_eq_some_iff.1 hx7).1; have HF7 := Lib.hid (far_bounds (HO.out.net.inv.all x7 (List.mem_of_getElem? hx7)).1); clear ho7 hs7 hx7)))
            go_roundw
            case rel => exact ⟨k + 1, _, _, _, (by rw [List.length_eraseIdx_of_lt HX7.out]; have := HQ.out; have := HX7.out; omega), by go_num, ⟨by have := HF7.out; have := HHB.out; omega, by have := HF7.out; have := HHB.out; omega⟩, HO7.out, HS7.out⟩
            case measure => simp [intOf]; omega
theorem once_true (c : Cfg) (os : List Nt) (ps : List Int) (ad adp : Option Addr) (len cap lenp capp : Nat) (w : World) (hT : Tab w) (hK : TabK w) (hlen : len = os.length) (hat : NotesAt w ad os) (hlenp : lenp = ps.length) (hatp : IntsAt w adp ps) :
    Calls Tryd.prog 5 #[.agg c.cells, .slice ad len cap, .slice adp lenp capp] w fun e w' => e = .returned (.bool true) ∧ w.grownBy w' none := by
  by_cases h : 100 < len
  · exact once_long1 c ad adp len cap lenp capp w hT hK h
  · by_cases h2 : 300 < lenp
    · exact once_long2 c ad adp len cap lenp capp w hT hK (by omega) h2
    · by_cases hm : c.may
      · exact once_some c os ps ad adp len cap lenp capp w hT hK hlen hat hlenp hatp (by omega) (by omega) hm
      · exact once_no c ad adp len cap lenp capp w hT hK (by omega) (by omega) hm
end Go.Proofs.YtoemkhmbeiindaaDoor.tt
