/-
  The law NetOrder returns true: the walk. Condition: the tables of bounds and of kinds lie in their variables as the program's text has them; that the notes lie where the argument says.
-/
import Derived.Test.YtoemkhmbeiindaaDoorKb0
namespace Go.Proofs.YtoemkhmbeiindaaDoor.tt
open Go Go.ChangeShapes Go.WideShapes Go.ChangeAt Go.RowKit Go.Shelf
set_option linter.unusedVariables false

set_option maxHeartbeats 1000000 in
theorem order_long (c : Cfg) (ad : Option Addr) (len cap : Nat) (w : World) (hT : Tab w) (hK : TabK w) (h : 100 < len) :
    Calls Tryd.prog 8 #[.agg c.cells, .slice ad len cap] w fun e w' => e = .returned (.bool true) ∧ w.grownBy w' none := by
  have hd : decide ((100 : Int) < (len : Int)) = true := by simp; omega
  have hg0 : w.grownBy (w.alloc (.cells c.cells 27)) none := grown_alloc (grown_refl _ _) _
  have HW := Lib.hid (works_any _ (hT.grown hg0) (hK.grown hg0))
  have HG0 := Lib.hid hg0
  clear hT hK h hg0
  unfold Cfg.cells at *
  go_enter Tryd.func8, Tryd.ntmps8
  go_wp2_with (go_at_call 11; ((refine HW.out.mono ?_); rintro e w3 ⟨rfl, hg3⟩; have HG3 := Lib.hid hg3; clear hg3))
  go_ret
  exact ⟨rfl, grown_trans HG0.out HG3.out⟩
set_option maxHeartbeats 1000000 in
theorem order_no (c : Cfg) (ad : Option Addr) (len cap : Nat) (w : World) (hT : Tab w) (hK : TabK w) (h : len ≤ 100) (hm : ¬ c.may) :
    Calls Tryd.prog 8 #[.agg c.cells, .slice ad len cap] w fun e w' => e = .returned (.bool true) ∧ w.grownBy w' none := by
  have hd : decide ((100 : Int) < (len : Int)) = false := by simp; omega
  have hg0 : w.grownBy (w.alloc (.cells c.cells 27)) none := grown_alloc (grown_refl _ _) _
  have HN := Lib.hid (own_bad200 c _ (hT.grown hg0) hm)
  have HW : Hid (∀ w', (w.alloc (.cells c.cells 27)).grownBy w' none → _) := Lib.hid (fun w' h => works_any w' (hT.grown (grown_trans hg0 h)) (hK.grown (grown_trans hg0 h)))
  obtain ⟨c0, c1, c2, c3, c4, c5, c6, c7⟩ := cfg_at w c
  have HG0 := Lib.hid hg0
  clear hT hK h hm hg0
  unfold Cfg.cells at *
  go_enter Tryd.func8, Tryd.ntmps8
  go_wp2_with (first
    | (go_at_call 9; ((with_reducible refine HN.out.mono ?_); rintro e w2 ⟨rfl, hg2⟩; have HG2 := Lib.hid hg2; clear hg2))
    | (go_at_call 11; ((refine (HW.out _ HG2.out).mono ?_); rintro e w3 ⟨rfl, hg3⟩; have HG3 := Lib.hid hg3; clear hg3)))
  go_ret
  exact ⟨rfl, grown_trans HG0.out (grown_trans HG2.out HG3.out)⟩

set_option maxRecDepth 1000000 in
set_option maxHeartbeats 4000000 in
theorem order_some (c : Cfg) (os : List Nt) (ad : Option Addr) (len cap : Nat) (w : World) (hT : Tab w) (hK : TabK w) (hlen : len = os.length) (hat : NotesAt w ad os) (h : len ≤ 100) (hm : c.may) :
    Calls Tryd.prog 8 #[.agg c.cells, .slice ad len cap] w fun e w' => e = .returned (.bool true) ∧ w.grownBy w' none := by
  obtain ⟨i0, hi, hz0, hz1, hz2⟩ := info_parts infoN
  have hd : decide ((100 : Int) < (len : Int)) = false := by simp; omega
  have hg0 : w.grownBy (w.alloc (.cells c.cells 27)) none := grown_alloc (grown_refl _ _) _
  have HN := Lib.hid (own_new200 c _ (hT.grown hg0) hm)
  have HW : Hid (∀ w', w.grownBy w' none → _) := Lib.hid (fun w' h => works_any w' (hT.grown h) (hK.grown h))
  obtain ⟨c0, c1, c2, c3, c4, c5, c6, c7⟩ := cfg_at w c
  have HT := Lib.hid hT
  have HK := Lib.hid hK
  have HG0 := Lib.hid hg0
  have HAT := Lib.hid (fun w' (h : w.grownBy w' none) => hat.grown h)
  have HL := Lib.hid hlen
  have HLEN := Lib.hid h
  clear hT hK hm hg0 hat hlen
  unfold Cfg.cells at HN HG0 c0 c1 c2 c3 c4 c5 c6 c7 ⊢
  go_enter Tryd.func8, Tryd.ntmps8
  go_wp2_with (first
    | (go_at_call 9; ((with_reducible refine HN.out.mono ?_); rintro e w2 ⟨t, p, rfl, ho2⟩; have H2 := Lib.hid (ho2.from HG0.out); clear ho2 c0 c1 c2 c3 c4 c5 c6 c7)))
  clear HN
  go_loopw [28, 7] (fun i sv wr => ∃ (j : Nat) (v : Value) (ns : List Nt), j ≤ len ∧ ns.length ≤ j ∧ i = .int .i64 (j : Int) ∧ Own w wr t p c 200 v ns 0 ∧ Beside w wr v sv ns) (fun i _ _ => len - (intOf i).toNat)
  case atStart => exact ⟨0, _, [], Nat.zero_le _, Nat.le_refl _, rfl, H2.out, Beside.nil _ _ _⟩
  case round =>
    clear H2
    obtain ⟨j, v, ns, hj, hnj, rfl, ho, hs⟩ := hrel
    have HO := Lib.hid ho
    have HS := Lib.hid hs
    have HNJ := Lib.hid hnj
    clear ho hs hnj
    by_cases hlt : j < len
    · obtain ⟨n, hn⟩ : ∃ n, os[j]? = some n := ⟨_, List.getElem?_eq_getElem (by have := HL.out; omega)⟩
      obtain ⟨b, off, rfl, hr⟩ := HAT.out _ HO.out.old j n hn
      have HR := Lib.hid hr
      have hga : wr.grownBy (wr.alloc (.cells (na n) 37)) none := grown_alloc (grown_refl _ _) _
      have HO1 := Lib.hid (HO.out.grown hga)
      have HS1 := Lib.hid (HS.out.grown hga)
      have HX : Hid ((wr.alloc (.cells (na n) 37)).rangeAt wr.heap.size 0 (nt n)) := Lib.hid (range_of (heap_alloc_new _ _))
      have HNE := Lib.hid (HO.out.ne wr.heap.size (Nat.le_refl _))
      clear hn hr hga
      by_cases hsd : fits c n ∧ many ns n.t (net n.k) < 200
      · have HSD := Lib.hid (own_send_yes HT.out HK.out HO1.out n hsd)
        have hnsz := na_size n
        have hfd := build_na n
        clear hsd
        go_wp2_with (first
          | ((with_reducible refine load_na n _ b (off + j * 24) ?_ HR.out ?_); (rfl))
          | ((with_reducible refine store_new n _ _ _ ?_ ?_ ?_ ?_); (rfl); (rfl); (rfl))
          | ((with_reducible refine load_nt n _ wr.heap.size ?_ HX.out ?_); (rfl))
          | (go_at_call 12; ((with_reducible refine HSD.out.mono ?_); rintro e w4 ⟨rfl, v4, ho4, ht4⟩; have hgb : w4.grownBy (w4.alloc (.cells (na n) 37)) none := grown_alloc (grown_refl _ _) _; have HO4 := Lib.hid (ho4.grown hgb); have HS4 := Lib.hid ((HS1.out.turn HO1.out.net ht4).grown hgb); have HX4 := Lib.hid (ht4.range HX.out (by simp) HNE.out); clear ho4 ht4 hgb))
          | ((with_reducible refine load_nt n _ wr.heap.size ?_ HX4.out ?_); (rfl))
          | ((with_reducible refine append_sl 50 37 24 i0 (.agg (na zn)) 112 _ _ Tryd.underlying50 hi hz0 hz1 hz2 zn_cells _ ns.length (flat nt ns) ?_ HS4.out.sl (.slice (some ⟨w4.heap.size, 0, none⟩) 1 1) 1 (nt n) ?_ (src_one' _ w4.heap.size (na n) _ (nt n) 24 Tryd.underlying50 (heap_alloc_new _ _) rfl (nt_len n) (nt_one n)) ?_ ?_ ?_); (rfl); (rfl); (have := HNJ.out; unfold maxLen; omega); (have := HNJ.out; omega); (intro v5 w5 hsl hgr hnx; have HO5 := Lib.hid (HO4.out.append HS4.out hgr); have HS5 := Lib.hid (HS4.out.next HO4.out hnx (snoc_sl hsl)); clear hsl hgr hnx)))
        go_roundw
        case rel => exact ⟨j + 1, _, _, by omega, by have := HNJ.out; simp; omega, by go_num, HO5.out, HS5.out⟩
        case measure => simp [intOf]; omega
      · obtain ⟨z, hz, hcall⟩ := own_send_no HT.out HK.out HO1.out n hsd
        have HSD := Lib.hid hcall
        clear hsd hcall
        go_wp2_with (first
          | ((with_reducible refine load_na n _ b (off + j * 24) ?_ HR.out ?_); (rfl))
          | ((with_reducible refine store_new n _ _ _ ?_ ?_ ?_ ?_); (rfl); (rfl); (rfl))
          | ((with_reducible refine load_nt n _ wr.heap.size ?_ HX.out ?_); (rfl))
          | (go_at_call 12; ((with_reducible refine HSD.out.mono ?_); rintro e w4 ⟨rfl, v4, ho4, ht4⟩; have HO4 := Lib.hid ho4; have HS4 := Lib.hid (HS1.out.turn HO1.out.net ht4); clear ho4 ht4)))
        go_roundw
        case rel => exact ⟨j + 1, _, _, by omega, by have := HNJ.out; omega, by go_num, HO4.out, HS4.out⟩
        case measure => simp [intOf]; omega
    · obtain ⟨ads, caps, rfl⟩ := HS.out.sl.form
      obtain ⟨q, hq⟩ : ∃ q, q = ns.length := ⟨_, rfl⟩
      have HQ := Lib.hid hq
      have HQ1 : Hid (q ≤ 100) := Lib.hid (by have := HNJ.out; omega)
      rw [← hq] at HS ⊢
      clear hq
      go_wp2_with fail
      go_loopw [43] (fun i wr => ∃ (k : Nat) (v : Value) (h : Int), k ≤ q ∧ i = .int .i64 (k : Int) ∧ (0 ≤ h ∧ h ≤ 8 * (k : Int)) ∧ Own w wr t p c 200 v (ns.drop k) h ∧ Beside w wr v (.slice ads q caps) ns) (fun i _ => q - (intOf i).toNat)
      case atStart => exact ⟨0, _, 0, Nat.zero_le _, rfl, ⟨by omega, by omega⟩, HO.out, HS.out⟩
      case round =>
        clear HO HS HNJ
        obtain ⟨k, v, h, hk, rfl, ⟨hh1, hh2⟩, ho, hs⟩ := hrel
        have HO := Lib.hid ho
        have HS := Lib.hid hs
        clear ho hs
        by_cases hkq : k < q
        · obtain ⟨x, hx⟩ : ∃ x, ns[k]? = some x := ⟨_, List.getElem?_eq_getElem (by have := HQ.out; omega)⟩
          obtain ⟨b, off, had, hqe, hr⟩ := nsl_at HS.out.sl k x hx
          clear hqe
          subst had
          have HR := Lib.hid hr
          have hga : wr.grownBy (wr.alloc (.cells (na x) 37)) none := grown_alloc (grown_refl _ _) _
          have HO1 := Lib.hid (HO.out.grown hga)
          have HS1 := Lib.hid (HS.out.grown hga)
          have HX : Hid ((wr.alloc (.cells (na x) 37)).rangeAt wr.heap.size 0 (nt x)) := Lib.hid (range_of (heap_alloc_new _ _))
          have HNE := Lib.hid (HO.out.ne wr.heap.size (Nat.le_refl _))
          have hfx := far_bounds (HO.out.net.inv.all x (by rw [List.mem_iff_getElem?]; exact ⟨0, by rw [List.getElem?_drop, Nat.add_zero]; exact hx⟩)).1
          have HFX := Lib.hid hfx
          have HTK := Lib.hid (own_takeI HO1.out 0 0 rfl x (by rw [List.getElem?_drop, Nat.add_zero]; exact hx) hh1 (by have := HQ1.out; omega))
          rw [erase_drop ns k (by rw [← HQ.out]; exact hkq)] at HTK
          have hqn := neq_self x
          have hq100 := HQ1.out
          clear hx hr hga hfx
          go_wp2_with (first
            | ((with_reducible refine load_na x _ b (off + k * 24) ?_ HR.out ?_); (rfl))
            | ((with_reducible refine store_new x _ _ _ ?_ ?_ ?_ ?_); (rfl); (rfl); (rfl))
            | (go_at_call 14; ((with_reducible refine HTK.out.mono ?_); rintro e w4 ⟨rfl, v4, ho4, ht4⟩; have hgb : w4.grownBy (w4.alloc (.cells (na x) 37)) none := grown_alloc (grown_refl _ _) _; have HO4 := Lib.hid (ho4.grown hgb); have HS4 := Lib.hid ((HS1.out.turn HO1.out.net ht4).grown hgb); have HX4 := Lib.hid (range_grown (ht4.range HX.out (by simp) HNE.out) hgb (by simp)); have HY4 : Hid ((w4.alloc (.cells (na x) 37)).rangeAt w4.heap.size 0 (nt x)) := Lib.hid (range_of (heap_alloc_new _ _)); clear ho4 ht4 hgb))
            | ((with_reducible refine load_nt x _ w4.heap.size ?_ HY4.out ?_); (rfl))
            | ((with_reducible refine load_nt x _ wr.heap.size ?_ HX4.out ?_); (rfl)))
          go_roundw
          case rel => exact ⟨k + 1, _, _, by omega, by go_num, ⟨by have := HFX.out; omega, by have := HFX.out; omega⟩, HO4.out, HS4.out⟩
          case measure => simp [intOf]; omega
        · obtain rfl : k = q := by omega
          have HTK := Lib.hid (own_take_out HO.out 0 (.inr (by rw [HQ.out]; simp)))
          go_wp2_with (first
            | (go_at_call 14; ((with_reducible refine HTK.out.mono ?_); rintro e w4 ⟨rfl, hg4⟩; have HG4 := Lib.hid (grown_trans HO.out.old hg4); clear hg4))
            | (go_at_call 11; ((refine (HW.out _ HG4.out).mono ?_); rintro e w9 ⟨rfl, hg9⟩; have HG9 := Lib.hid (grown_trans HG4.out hg9); clear hg9)))
          go_ret
          exact ⟨rfl, HG9.out⟩
theorem order_true (c : Cfg) (os : List Nt) (ad : Option Addr) (len cap : Nat) (w : World) (hT : Tab w) (hK : TabK w) (hlen : len = os.length) (hat : NotesAt w ad os) :
    Calls Tryd.prog 8 #[.agg c.cells, .slice ad len cap] w fun e w' => e = .returned (.bool true) ∧ w.grownBy w' none := by
  by_cases h : 100 < len
  · exact order_long c ad len cap w hT hK h
  · by_cases hm : c.may
    · exact order_some c os ad len cap w hT hK hlen hat (by omega) hm
    · exact order_no c ad len cap w hT hK (by omega) hm
end Go.Proofs.YtoemkhmbeiindaaDoor.tt
