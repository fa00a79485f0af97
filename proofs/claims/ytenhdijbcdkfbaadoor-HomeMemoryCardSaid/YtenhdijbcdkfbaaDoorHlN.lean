/-
  HomeMemory's walk. Condition: the tables lie in their variables as the program's text has them; the notes lie where the argument says.
-/
import Derived.Test.YtenhdijbcdkfbaaDoorHlM
namespace Go.Proofs.YtenhdijbcdkfbaaDoor.hh
open Go Go.ChangeShapes Go.WideShapes Go.ChangeAt Go.RowKit
open Go.Proofs.YtenhdijbcdkfbaaDoor.tt (Nt Cfg fits net bare zd usd uses coreOf ok_ends MapAt mput mdel ik NPool NSl Turn flat na nt zn grown_alloc grown_refl grown_trans tyne lt_of)
open Go.Proofs.YtenhdijbcdkfbaaDoor.en (En gets back asked asks free ask_parts may_parts ea)
open Go.Proofs.YtenhdijbcdkfbaaDoor.mm (wi wo ones wo_lt)
set_option linter.unusedVariables false
set_option linter.unusedSimpArgs false

theorem wide_zero : Wide pp.zero := ⟨rfl, fun z hz => by obtain rfl := (List.mem_replicate.1 hz).2; decide⟩
theorem blk_of {w w1 w2 : World} {h : Nat} {c : Cfg} {F : Ft} {H : Hm} {mb : Nat} (O : Own w w1 h c F H) (hg : w1.grownBy w2 none) (hm : F.mb = mb) (i : Int) : Calls Tryd.prog 29 #[.pointer (some ⟨mb, 0, none⟩), .int .i64 i] w2 fun e w' => e = .returned (.tuple #[.agg (pp.row (pp.getB H.mm i)), .int .i64 (pp.err (pp.inb H.mm.length i))]) ∧ w2.grownBy w' none := by
  have M := (O.grown hg).at'.mem
  rw [hm] at M
  exact pp.block_any M i
theorem take_ok {c : Cfg} {H : Hm} {n : Nt} (h : ready c H n = 0) : (take c H n).2.2 = 0 := by
  unfold take
  rw [if_neg (fun e => e h)]
  split
  · split <;> rfl
  · split
    · rfl
    · split
      · rfl
      · dsimp only; split
        · rfl
        · split <;> rfl
/-- A note's first cells. -/
theorem note_cells {w : World} {g k : Nat} {n : Nt} (h : w.rangeAt g k (nt n)) : w.cell? ⟨g, k, none⟩ = some (.int .u8 n.k) ∧ w.cell? ⟨g, k + 1, none⟩ = some (.int .i64 n.f) ∧ w.cell? ⟨g, k + 2, none⟩ = some (.int .i64 n.t) ∧ w.cell? ⟨g, k + 3, none⟩ = some (.int .i64 n.b) ∧ w.cell? ⟨g, k + 5, none⟩ = some (.int .u8 n.s) :=
  ⟨h 0 _ rfl, h 1 _ rfl, h 2 _ rfl, h 3 _ rfl, h 5 _ rfl⟩
set_option maxRecDepth 1000000 in
set_option maxHeartbeats 8000000 in
theorem memory_long (c : Cfg) (ad : Option Addr) (len cap : Nat) (w : World) (T : Tabs w) (h : 300 < len) : Calls Tryd.prog 6 #[.agg c.cells, .slice ad len cap] w fun e w' => e = .returned (.bool true) ∧ w.grownBy w' none := by
  have hd : decide ((300 : Int) < (len : Int)) = true := by simp; omega
  have hg0 : w.grownBy (w.alloc (.cells c.cells 40)) none := grown_alloc (grown_refl _ _) _
  have HW : Hid (∀ w', w.grownBy w' none → _) := Lib.hid (fun w' h => works_any w' (T.grown h))
  have HG0 := Lib.hid hg0
  have HA := Lib.hid (tt.cfg_at w c)
  obtain ⟨c0, c1, c2, c3, c4, c5, c6, c7⟩ := HA.out
  clear T h hg0
  unfold Cfg.cells at *
  go_enter Tryd.func6, Tryd.ntmps6
  go_wp2_with (go_at_call 11; ((with_reducible refine (HW.out _ HG0.out).mono ?_); rintro e w3 ⟨rfl, hgw3⟩; have Gw3 := Lib.hid (grown_trans HG0.out hgw3); clear hgw3))
  go_ret
  exact ⟨rfl, Gw3.out⟩
set_option maxRecDepth 1000000 in
set_option maxHeartbeats 8000000 in
theorem memory_no (c : Cfg) (ad : Option Addr) (len cap : Nat) (w : World) (T : Tabs w) (h : len ≤ 300) (hm : ¬ c.may) : Calls Tryd.prog 6 #[.agg c.cells, .slice ad len cap] w fun e w' => e = .returned (.bool true) ∧ w.grownBy w' none := by
  have hd : decide ((300 : Int) < (len : Int)) = false := by simp; omega
  have hg0 : w.grownBy (w.alloc (.cells c.cells 40)) none := grown_alloc (grown_refl _ _) _
  have HW : Hid (∀ w', w.grownBy w' none → _) := Lib.hid (fun w' h => works_any w' (T.grown h))
  have HG0 := Lib.hid hg0
  have HA := Lib.hid (tt.cfg_at w c)
  have HMY := Lib.hid (tt.may_any c _ (T.grown hg0).t)
  rw [tt.yes_not hm] at HMY
  obtain ⟨c0, c1, c2, c3, c4, c5, c6, c7⟩ := HA.out
  clear T h hm hg0
  unfold Cfg.cells at *
  go_enter Tryd.func6, Tryd.ntmps6
  go_wp2_with (first
    | (go_at_call 21; ((with_reducible refine HMY.out.mono ?_); rintro e w2 ⟨rfl, hg2⟩; have HG2 := Lib.hid (grown_trans HG0.out hg2); clear hg2))
    | (go_at_call 11; ((with_reducible refine (HW.out _ HG2.out).mono ?_); rintro e w3 ⟨rfl, hgw3⟩; have Gw3 := Lib.hid (grown_trans HG2.out hgw3); clear hgw3)))
  go_ret
  exact ⟨rfl, Gw3.out⟩
set_option maxRecDepth 1000000 in
set_option maxHeartbeats 8000000 in
theorem memory_some (c : Cfg) (ad : Option Addr) (len cap : Nat) (w : World) (T : Tabs w) (ns : List Nt) (hlen : len = ns.length) (hat : NotesAt w ad ns) (hw : ∀ n ∈ ns, Word n ∧ Wide n.d) (h0 : len ≤ 300) (hm : c.may) : Calls Tryd.prog 6 #[.agg c.cells, .slice ad len cap] w fun e w' => e = .returned (.bool true) ∧ w.grownBy w' none := by
  have hd : decide ((300 : Int) < (len : Int)) = false := by simp; omega
  have hg0 : w.grownBy (w.alloc (.cells c.cells 40)) none := grown_alloc (grown_refl _ _) _
  have HW : Hid (∀ w', w.grownBy w' none → _) := Lib.hid (fun w' h => works_any w' (T.grown h))
  have HG0 := Lib.hid hg0
  have HA := Lib.hid (tt.cfg_at w c)
  have HMY := Lib.hid (tt.may_any c _ (T.grown hg0).t)
  rw [tt.yes_of hm] at HMY
  have HMN : Hid (∀ w, _) := Lib.hid fun w => mem_new hm w
  have HN : Hid (∀ w1 mb mv, (w.alloc (.cells c.cells 40)).grownBy w1 none → pp.Mem w1 mb mv (m0 c) → (∀ i, mv.ownBlock = some i → (w.alloc (.cells c.cells 40)).heap.size ≤ i) → _) := Lib.hid fun w1 mb mv hg hM hv => own_new (T.grown hg0) hg hM hv hm (m0_len hm)
  have HT := Lib.hid (T.grown hg0)
  have HMAY := Lib.hid hm
  have hmm := @run_makeMap Tryd.prog
  have HAT := Lib.hid (fun w' (h : (w.alloc (.cells c.cells 40)).grownBy w' none) => (hat.grown hg0).grown h)
  have HL := Lib.hid hlen
  have HW1 := Lib.hid hw
  have HH0 := Lib.hid h0
  obtain ⟨nb, hnb⟩ : ∃ n : Nat, c.bl = (n : Int) := ⟨c.bl.toNat, by have := hm.fits.bl; omega⟩
  have hnb2 : nb ≤ 256 := by have := hm.fits.bl; omega
  have HNB := Lib.hid hnb
  have HNB2 := Lib.hid hnb2
  obtain ⟨c0, c1, c2, c3, c4, c5, c6, c7⟩ := HA.out
  clear T h0 hm hg0 hat hlen hw hnb hnb2
  unfold Cfg.cells at HN HG0 HA HMY HT HAT c0 c1 c2 c3 c4 c5 c6 c7 ⊢
  go_enter Tryd.func6, Tryd.ntmps6
  go_wp2_with (first
    | (go_at_call 21; ((with_reducible refine HMY.out.mono ?_); rintro e w2 ⟨rfl, hg2⟩; obtain ⟨d0, d1, d2, d3, d4, d5, d6, d7⟩ := HA.out.grown hg2; have HG2 := Lib.hid hg2; clear hg2 c0 c1 c2 c3 c4 c5 c6 c7))
    | (go_at_call 22; ((with_reducible refine (HMN.out _).mono ?_); rintro e w3 ⟨mb, mv, rfl, hM, hg3, hmb, hmv⟩; have HG3 := Lib.hid (grown_trans HG2.out hg3); obtain ⟨c0, c1, c2, c3, c4, c5, c6, c7⟩ := HA.out.grown HG3.out; have HM := Lib.hid hM; have HV := Lib.hid (fun i hi => Nat.le_trans HG2.out.size (hmv i hi)); clear hg3 hM hmb hmv d0 d1 d2 d3 d4 d5 d6 d7))
    | (go_at_call 14; ((with_reducible refine (HN.out _ mb mv HG3.out HM.out HV.out).mono ?_); rintro e w4 ⟨h, F, rfl, hO, hmb, _, _⟩; have HO := Lib.hid hO; have HMB := Lib.hid hmb; have HBM := Lib.hid (BMap.new w4); clear hO hmb c0 c1 c2 c3 c4 c5 c6 c7))
    | ((with_reducible refine ins_bm HBM.out pp.zero wide_zero _ _ ?_ ?_ ?_); (rfl); (rfl); intro w5 hbm hg5; have HGI := Lib.hid hg5; have HB5 := Lib.hid hbm; clear hg5 hbm))
  clear hmm HN HMN HMY HM HV HG3 HG2
  obtain ⟨wz, hwz⟩ : ∃ x, w.alloc (.cells #[.int .i64 c.co, .int .i64 c.se, .int .i64 c.wa, .int .i64 c.bl, .int .i64 c.lo, .int .i64 c.ba, .int .i64 c.ne, .int .i64 c.tr] 40) = x := ⟨_, rfl⟩
  rw [hwz] at HO HG0 HA HT HAT
  clear hwz
  obtain ⟨mp, hmp⟩ : ∃ x, w4.heap.size = x := ⟨_, rfl⟩
  rw [hmp] at HGI HB5 HBM ⊢
  have HNM : Hid (¬ F.own mp) := Lib.hid (fun e => by have := HO.out.at'.own_lt e; omega)
  have HZM : Hid (wz.heap.size ≤ mp) := Lib.hid (by rw [← hmp]; exact HO.out.old.size)
  replace HO := Lib.hid ((HO.out.grown (grown_alloc (grown_refl _ _) _)).bm HBM.out HNM.out HZM.out HGI.out)
  clear hmp HGI HBM
  obtain ⟨H0, hH0⟩ : ∃ H0, H0 = new c (m0 c) := ⟨_, rfl⟩
  have HS0 : Hid (∀ m ∈ H0.wt, m.h = true → m.d ∈ [pp.zero]) := Lib.hid (by rw [hH0]; exact fun m hm => by cases hm)
  rw [← hH0] at HO
  clear hH0
  go_loopw [52] (fun i wr => ∃ (j : Nat) (F : Ft) (S : List (List Int)), j ≤ len ∧ i = .int .i64 (j : Int) ∧ Own wz wr h c F (stOf c H0 (ns.take j)) ∧ F.mb = mb ∧ BMap wr mp S ∧ ¬ F.own mp ∧ (∀ m ∈ (stOf c H0 (ns.take j)).wt, m.h = true → m.d ∈ S)) (fun i _ => len - (intOf i).toNat)
  case atStart => exact ⟨0, F, [pp.zero], Nat.zero_le _, rfl, HO.out, HMB.out, HB5.out, HNM.out, HS0.out⟩
  case round =>
    clear HO HMB HB5 HNM HS0
    obtain ⟨j, F1, S, hj, rfl, ho, hmb, hbm, hnm, hws⟩ := hrel
    have HO := Lib.hid ho
    have HMB := Lib.hid hmb
    have HBM := Lib.hid hbm
    have HNM := Lib.hid hnm
    have HWS := Lib.hid hws
    clear ho hmb hbm hnm hws
    have hj300 : j ≤ 300 := by have := HH0.out; omega
    by_cases hlt : j < len
    · obtain ⟨n, hn⟩ : ∃ n, ns[j]? = some n := ⟨_, List.getElem?_eq_getElem (by have := HL.out; omega)⟩
      obtain ⟨b, off, rfl, hr⟩ := HAT.out _ HO.out.old j n hn
      have HR := Lib.hid hr
      have HN := Lib.hid hn
      have HWN := Lib.hid (HW1.out n (List.mem_of_getElem? hn)).1
      have HWD := Lib.hid (HW1.out n (List.mem_of_getElem? hn)).2
      clear hn hr
      obtain ⟨H1, hH1⟩ : ∃ x, x = stOf c H0 (ns.take j) := ⟨_, rfl⟩
      rw [← hH1] at HO HWS
      have HH1 := Lib.hid hH1
      clear hH1
      obtain ⟨wa, hwa⟩ : ∃ x, wr.alloc (.cells (na n) 31) = x := ⟨_, rfl⟩
      obtain ⟨BN, hBN⟩ : ∃ B, wr.heap.size = B := ⟨_, rfl⟩
      have hga : wr.grownBy wa none := by rw [← hwa]; exact grown_alloc (grown_refl _ _) _
      have HXA : Hid (wa.heap[BN]? = some (.cells (na n) 31 (0, 0))) := Lib.hid (by rw [← hwa, ← hBN]; exact heap_alloc_new _ _)
      have HOA := Lib.hid (HO.out.grown hga)
      have HBA := Lib.hid (HBM.out.grown hga)
      have HNN : Hid (¬ F1.own BN) := Lib.hid (fun e => by have := HO.out.at'.own_lt e; omega)
      have HNMP : Hid (BN ≠ mp) := Lib.hid (by have := HBM.out.lt; omega)
      have HWA := Lib.hid hwa
      have HBN := Lib.hid hBN
      clear hwa hBN hga
      obtain ⟨H2, hH2⟩ : ∃ x, x = (take c H1 n).1 := ⟨_, rfl⟩
      have HH2 := Lib.hid hH2
      clear hH2
      have HI1 := Lib.hid HO.out.at'.inv
      by_cases hh : n.h = true
      · have HHH := Lib.hid hh
        have HSN : Hid (n.h = true → n.d ∈ (n.d :: S)) := Lib.hid (fun _ => by simp)
        have HSW : Hid (∀ m ∈ H1.wt, m.h = true → m.d ∈ (n.d :: S)) := Lib.hid (fun m hm e => by simp [HWS.out m hm e])
        have HCPF : Hid (∀ w1, Own wz w1 h c F1 H1 → Hid (Calls Tryd.prog 28 #[.pointer (some ⟨mb, 0, none⟩)] w1 fun e w' => ∃ b' v', e = .returned (.pointer (some ⟨b', 0, none⟩)) ∧ pp.Mem w' b' v' H1.mm ∧ w1.grownBy w' none ∧ w1.heap.size ≤ b' ∧ ∀ k, v'.ownBlock = some k → w1.heap.size ≤ k)) := Lib.hid fun w1 O => Lib.hid (by
          have M := O.at'.mem
          rw [HMB.out] at M
          exact pp.copy_any mb F1.mv H1.mm w1 M (by rw [O.at'.inv.lm]; have := HNB.out; have := HNB2.out; omega))
        clear hh
        go_wp2_with (first
          | ((with_reducible refine tt.load_na n _ b (off + j * 24) ?_ HR.out ?_); (rfl))
          | ((with_reducible refine tt.store_new n _ _ _ ?_ ?_ ?_ ?_); (rfl); (rfl); (rfl); rw [HWA.out, HBN.out]; have n6 := tt.cell_at (tt.range_of HXA.out) 6 _ rfl; rw [HHH.out] at n6)
          | ((with_reducible refine load_d n _ BN ?_ (tt.range_of HXA.out) ?_); (rfl))
          | ((with_reducible refine upd_bm HBA.out n.d HWD.out _ _ ?_ ?_ ?_); (rfl); (rfl); intro w5 hbm hg5; have HBB := Lib.hid hbm; have HXB := Lib.hid ((hg5.block BN (lt_of HXA.out) (fun e => HNMP.out (Option.some.inj e))).trans HXA.out); have HOB := Lib.hid (HOA.out.bm HBA.out HNM.out HZM.out hg5); have HCP := HCPF.out _ HOB.out; clear hbm hg5)
          | (go_at_call 28; ((with_reducible refine HCP.out.mono ?_); rintro e w6 ⟨wb, wv, rfl, hM, hg6, hb6, hv6⟩; have HO6 := Lib.hid (HOB.out.grown hg6); have HB6 := Lib.hid (HBB.out.grown hg6); have HX6 := Lib.hid (row_up HXB.out hg6); have HNW : Hid (¬ F1.own wb ∧ ∀ k, wv.ownBlock = some k → ¬ F1.own k) := Lib.hid ⟨fun e => by have := HOB.out.at'.own_lt e; omega, fun k hk e => by have := HOB.out.at'.own_lt e; have := hv6 k hk; omega⟩; have HM6 := Lib.hid hM; have HTK := Lib.hid (own_take HT.out HO6.out n HWN.out); clear hM hg6 hb6 hv6))
          | ((with_reducible refine tt.load_nt n _ BN ?_ (tt.range_of HX6.out) ?_); (rfl))
          | (go_at_call 16; ((with_reducible refine HTK.out.mono ?_); rintro e w7 ⟨F2, v, rfl, ho, hS, hD, _⟩; rw [← HH2.out] at ho; have HO7 := Lib.hid ho; have HX7 := Lib.hid (hD.heap HX6.out HNN.out); have HM7 := Lib.hid (hD.mem HO6.out.at' HM6.out HNW.out.1 HNW.out.2); have HB7 := Lib.hid (HB6.out.same (hD.block mp HB6.out.lt HNM.out)); have HNM2 := Lib.hid (hD.own HB6.out.lt HNM.out); have HMB2 : Hid (F2.mb = mb) := Lib.hid (hD.mb.trans HMB.out); obtain ⟨d0, d1, d2, d3, d4, d5, d6, d7⟩ := HA.out.grown ho.old; rw [HNB.out] at d3; obtain ⟨ev, hev⟩ : ∃ x, x = (take c H1 n).2.2 := ⟨_, rfl⟩; rw [← hev]; have HEV := Lib.hid hev; clear ho hS hD hev)))
        clear HOA HBA HXA HOB HBB HXB HCP HCPF HO6 HB6 HX6 HM6 HTK HNW HWA HBN HO HBM
        go_loopw [71] (fun i wq => ∃ q : Nat, q ≤ nb ∧ i = .int .i64 (q : Int) ∧ w7.grownBy wq none) (fun i _ => nb - (intOf i).toNat)
        case atStart => exact ⟨0, Nat.zero_le _, rfl, grown_refl _ _⟩
        case round =>
          obtain ⟨q, hq, rfl, hgq⟩ := hrel
          have HGQ := Lib.hid hgq
          have hq256 := HNB2.out
          clear hgq d0 d1 d2 d3 d4 d5 d6 d7
          by_cases hlq : q < nb
          · have HM8 := Lib.hid (HM7.out.kept HGQ.out)
            have HOQ := Lib.hid (HO7.out.grown HGQ.out)
            have HB1 := Lib.hid (pp.block_any HM8.out (q : Int))
            have hx16 := pp.getB_length HM8.out (q : Int)
            have hy16 := pp.getB_length HOQ.out.at'.mem (q : Int)
            have HFA : Hid (pp.getB H1.mm (q : Int) ≠ pp.getB H2.mm (q : Int) → _) := Lib.hid (fun hne => memory_facts HI1.out n HWN.out (n.d :: S) HSN.out HSW.out q (by rw [← HH2.out]; exact hne))
            rw [← HH2.out] at HFA
            obtain ⟨x, hx⟩ : ∃ x, x = pp.getB H1.mm (q : Int) := ⟨_, rfl⟩
            obtain ⟨y, hy⟩ : ∃ x, x = pp.getB H2.mm (q : Int) := ⟨_, rfl⟩
            rw [← hx] at HB1 hx16 HFA
            rw [← hy] at hy16 HFA
            have HX16 := Lib.hid hx16
            have HY16 := Lib.hid hy16
            have HY := Lib.hid hy
            clear hx hy hx16 hy16 HM8 HOQ
            by_cases hxy : x = y
            · have h30 : ∀ w, (binOp .neq 29 (.agg (pp.row x)) (.agg (pp.row y))).run Tryd.prog w = .ok (.bool false) w := fun w => by rw [pp.q30 w x y HX16.out HY16.out, hxy]; simp
              clear HFA hxy
              go_wp2_with (first
                | (go_at_call 29; ((with_reducible refine HB1.out.mono ?_); rintro e w8 ⟨rfl, hg8⟩; have HG8 := Lib.hid (grown_trans HGQ.out hg8); clear hg8))
                | ((with_reducible refine pp.store_new' x _ _ ?_ ?_ HX16.out ?_); (rfl); (rfl); obtain ⟨BX, hBX⟩ : ∃ B, w8.heap.size = B := ⟨_, rfl⟩; obtain ⟨w9, hw9⟩ : ∃ z, w8.alloc (.cells (pp.row x) 29) = z := ⟨_, rfl⟩; have hg9 : w8.grownBy w9 none := (by rw [← hw9]; exact grown_alloc (grown_refl _ _) _); have HX9 : Hid (w9.heap[BX]? = some (.cells (pp.row x) 29 (0, 0))) := Lib.hid (by rw [← hw9, ← hBX]; exact heap_alloc_new _ _); have HG9 := Lib.hid (grown_trans HG8.out hg9); have HB2 := Lib.hid (blk_of HO7.out HG9.out HMB2.out (q : Int)); rw [← HY.out] at HB2; rw [hw9, hBX]; clear hw9 hBX hg9)
                | (go_at_call 29; ((with_reducible refine HB2.out.mono ?_); rintro e wu ⟨rfl, hgu⟩; have HGU := Lib.hid (grown_trans HG9.out hgu); have HXU := Lib.hid (row_up HX9.out hgu); clear hgu))
                | ((with_reducible refine pp.store_new' y _ _ ?_ ?_ HY16.out ?_); (rfl); (rfl); obtain ⟨BY, hBY⟩ : ∃ B, wu.heap.size = B := ⟨_, rfl⟩; obtain ⟨wy, hwy⟩ : ∃ z, wu.alloc (.cells (pp.row y) 29) = z := ⟨_, rfl⟩; have hgy : wu.grownBy wy none := (by rw [← hwy]; exact grown_alloc (grown_refl _ _) _); have HYY : Hid (wy.heap[BY]? = some (.cells (pp.row y) 29 (0, 0))) := Lib.hid (by rw [← hwy, ← hBY]; exact heap_alloc_new _ _); have HXY := Lib.hid (row_up HXU.out hgy); have HGY := Lib.hid (grown_trans HGU.out hgy); skip; rw [hwy, hBY]; clear hwy hBY hgy)
                | ((with_reducible refine pp.load_any x _ BX ?_ HXY.out HX16.out ?_); (rfl))
                | ((with_reducible refine pp.load_any y _ BY ?_ HYY.out HY16.out ?_); (rfl))
                | ((with_reducible refine load_gb y _ BY ?_ ?_ HYY.out HY16.out ?_); (rfl); (rfl)))
              go_roundw
              case rel => exact ⟨q + 1, by omega, by go_num, HGY.out⟩
              case measure => simp [intOf]; omega
            · obtain ⟨hrd, hyS, hnb, hkk⟩ := HFA.out hxy
              have h30 : ∀ w, (binOp .neq 29 (.agg (pp.row x)) (.agg (pp.row y))).run Tryd.prog w = .ok (.bool true) w := fun w => by rw [pp.q30 w x y HX16.out HY16.out]; simp [hxy]
              have HYS := Lib.hid hyS
              have HNQ := Lib.hid hnb
              have hev0 : ev = 0 := by rw [HEV.out]; exact take_ok hrd
              clear HFA hxy hrd hyS hnb
              subst hev0
              rcases hkk with hk | hk | hk | hk
              · have HKK := Lib.hid hk
                clear hk
                go_wp2_with (first
                  | (go_at_call 29; ((with_reducible refine HB1.out.mono ?_); rintro e w8 ⟨rfl, hg8⟩; have HG8 := Lib.hid (grown_trans HGQ.out hg8); clear hg8))
                  | ((with_reducible refine pp.store_new' x _ _ ?_ ?_ HX16.out ?_); (rfl); (rfl); obtain ⟨BX, hBX⟩ : ∃ B, w8.heap.size = B := ⟨_, rfl⟩; obtain ⟨w9, hw9⟩ : ∃ z, w8.alloc (.cells (pp.row x) 29) = z := ⟨_, rfl⟩; have hg9 : w8.grownBy w9 none := (by rw [← hw9]; exact grown_alloc (grown_refl _ _) _); have HX9 : Hid (w9.heap[BX]? = some (.cells (pp.row x) 29 (0, 0))) := Lib.hid (by rw [← hw9, ← hBX]; exact heap_alloc_new _ _); have HG9 := Lib.hid (grown_trans HG8.out hg9); have HB2 := Lib.hid (blk_of HO7.out HG9.out HMB2.out (q : Int)); rw [← HY.out] at HB2; rw [hw9, hBX]; clear hw9 hBX hg9)
                  | (go_at_call 29; ((with_reducible refine HB2.out.mono ?_); rintro e wu ⟨rfl, hgu⟩; have HGU := Lib.hid (grown_trans HG9.out hgu); have HXU := Lib.hid (row_up HX9.out hgu); clear hgu))
                  | ((with_reducible refine pp.store_new' y _ _ ?_ ?_ HY16.out ?_); (rfl); (rfl); obtain ⟨BY, hBY⟩ : ∃ B, wu.heap.size = B := ⟨_, rfl⟩; obtain ⟨wy, hwy⟩ : ∃ z, wu.alloc (.cells (pp.row y) 29) = z := ⟨_, rfl⟩; have hgy : wu.grownBy wy none := (by rw [← hwy]; exact grown_alloc (grown_refl _ _) _); have HYY : Hid (wy.heap[BY]? = some (.cells (pp.row y) 29 (0, 0))) := Lib.hid (by rw [← hwy, ← hBY]; exact heap_alloc_new _ _); have HXY := Lib.hid (row_up HXU.out hgy); have HGY := Lib.hid (grown_trans HGU.out hgy); have hlk := look_bm (HB7.out.grown HGY.out) y HYS.out; obtain ⟨n0, _, _, n3, _⟩ := note_cells (tt.range_of (row_up HX7.out HGY.out)); rw [Nat.zero_add] at n3; rw [HNQ.out] at n3; rw [HKK.out] at n0; rw [hwy, hBY]; clear hwy hBY hgy)
                  | ((with_reducible refine pp.load_any x _ BX ?_ HXY.out HX16.out ?_); (rfl))
                  | ((with_reducible refine pp.load_any y _ BY ?_ HYY.out HY16.out ?_); (rfl))
                  | ((with_reducible refine load_gb y _ BY ?_ ?_ HYY.out HY16.out ?_); (rfl); (rfl)))
                go_roundw
                case rel => exact ⟨q + 1, by omega, by go_num, HGY.out⟩
                case measure => simp [intOf]; omega
              · have HKK := Lib.hid hk
                clear hk
                go_wp2_with (first
                  | (go_at_call 29; ((with_reducible refine HB1.out.mono ?_); rintro e w8 ⟨rfl, hg8⟩; have HG8 := Lib.hid (grown_trans HGQ.out hg8); clear hg8))
                  | ((with_reducible refine pp.store_new' x _ _ ?_ ?_ HX16.out ?_); (rfl); (rfl); obtain ⟨BX, hBX⟩ : ∃ B, w8.heap.size = B := ⟨_, rfl⟩; obtain ⟨w9, hw9⟩ : ∃ z, w8.alloc (.cells (pp.row x) 29) = z := ⟨_, rfl⟩; have hg9 : w8.grownBy w9 none := (by rw [← hw9]; exact grown_alloc (grown_refl _ _) _); have HX9 : Hid (w9.heap[BX]? = some (.cells (pp.row x) 29 (0, 0))) := Lib.hid (by rw [← hw9, ← hBX]; exact heap_alloc_new _ _); have HG9 := Lib.hid (grown_trans HG8.out hg9); have HB2 := Lib.hid (blk_of HO7.out HG9.out HMB2.out (q : Int)); rw [← HY.out] at HB2; rw [hw9, hBX]; clear hw9 hBX hg9)
                  | (go_at_call 29; ((with_reducible refine HB2.out.mono ?_); rintro e wu ⟨rfl, hgu⟩; have HGU := Lib.hid (grown_trans HG9.out hgu); have HXU := Lib.hid (row_up HX9.out hgu); clear hgu))
                  | ((with_reducible refine pp.store_new' y _ _ ?_ ?_ HY16.out ?_); (rfl); (rfl); obtain ⟨BY, hBY⟩ : ∃ B, wu.heap.size = B := ⟨_, rfl⟩; obtain ⟨wy, hwy⟩ : ∃ z, wu.alloc (.cells (pp.row y) 29) = z := ⟨_, rfl⟩; have hgy : wu.grownBy wy none := (by rw [← hwy]; exact grown_alloc (grown_refl _ _) _); have HYY : Hid (wy.heap[BY]? = some (.cells (pp.row y) 29 (0, 0))) := Lib.hid (by rw [← hwy, ← hBY]; exact heap_alloc_new _ _); have HXY := Lib.hid (row_up HXU.out hgy); have HGY := Lib.hid (grown_trans HGU.out hgy); have hlk := look_bm (HB7.out.grown HGY.out) y HYS.out; obtain ⟨n0, _, _, n3, _⟩ := note_cells (tt.range_of (row_up HX7.out HGY.out)); rw [Nat.zero_add] at n3; rw [HNQ.out] at n3; rw [HKK.out] at n0; rw [hwy, hBY]; clear hwy hBY hgy)
                  | ((with_reducible refine pp.load_any x _ BX ?_ HXY.out HX16.out ?_); (rfl))
                  | ((with_reducible refine pp.load_any y _ BY ?_ HYY.out HY16.out ?_); (rfl))
                  | ((with_reducible refine load_gb y _ BY ?_ ?_ HYY.out HY16.out ?_); (rfl); (rfl)))
                go_roundw
                case rel => exact ⟨q + 1, by omega, by go_num, HGY.out⟩
                case measure => simp [intOf]; omega
              · have HKK := Lib.hid hk
                clear hk
                go_wp2_with (first
                  | (go_at_call 29; ((with_reducible refine HB1.out.mono ?_); rintro e w8 ⟨rfl, hg8⟩; have HG8 := Lib.hid (grown_trans HGQ.out hg8); clear hg8))
                  | ((with_reducible refine pp.store_new' x _ _ ?_ ?_ HX16.out ?_); (rfl); (rfl); obtain ⟨BX, hBX⟩ : ∃ B, w8.heap.size = B := ⟨_, rfl⟩; obtain ⟨w9, hw9⟩ : ∃ z, w8.alloc (.cells (pp.row x) 29) = z := ⟨_, rfl⟩; have hg9 : w8.grownBy w9 none := (by rw [← hw9]; exact grown_alloc (grown_refl _ _) _); have HX9 : Hid (w9.heap[BX]? = some (.cells (pp.row x) 29 (0, 0))) := Lib.hid (by rw [← hw9, ← hBX]; exact heap_alloc_new _ _); have HG9 := Lib.hid (grown_trans HG8.out hg9); have HB2 := Lib.hid (blk_of HO7.out HG9.out HMB2.out (q : Int)); rw [← HY.out] at HB2; rw [hw9, hBX]; clear hw9 hBX hg9)
                  | (go_at_call 29; ((with_reducible refine HB2.out.mono ?_); rintro e wu ⟨rfl, hgu⟩; have HGU := Lib.hid (grown_trans HG9.out hgu); have HXU := Lib.hid (row_up HX9.out hgu); clear hgu))
                  | ((with_reducible refine pp.store_new' y _ _ ?_ ?_ HY16.out ?_); (rfl); (rfl); obtain ⟨BY, hBY⟩ : ∃ B, wu.heap.size = B := ⟨_, rfl⟩; obtain ⟨wy, hwy⟩ : ∃ z, wu.alloc (.cells (pp.row y) 29) = z := ⟨_, rfl⟩; have hgy : wu.grownBy wy none := (by rw [← hwy]; exact grown_alloc (grown_refl _ _) _); have HYY : Hid (wy.heap[BY]? = some (.cells (pp.row y) 29 (0, 0))) := Lib.hid (by rw [← hwy, ← hBY]; exact heap_alloc_new _ _); have HXY := Lib.hid (row_up HXU.out hgy); have HGY := Lib.hid (grown_trans HGU.out hgy); have hlk := look_bm (HB7.out.grown HGY.out) y HYS.out; obtain ⟨n0, _, _, n3, _⟩ := note_cells (tt.range_of (row_up HX7.out HGY.out)); rw [Nat.zero_add] at n3; rw [HNQ.out] at n3; rw [HKK.out] at n0; rw [hwy, hBY]; clear hwy hBY hgy)
                  | ((with_reducible refine pp.load_any x _ BX ?_ HXY.out HX16.out ?_); (rfl))
                  | ((with_reducible refine pp.load_any y _ BY ?_ HYY.out HY16.out ?_); (rfl))
                  | ((with_reducible refine load_gb y _ BY ?_ ?_ HYY.out HY16.out ?_); (rfl); (rfl)))
                go_roundw
                case rel => exact ⟨q + 1, by omega, by go_num, HGY.out⟩
                case measure => simp [intOf]; omega
              · have HKK := Lib.hid hk
                clear hk
                go_wp2_with (first
                  | (go_at_call 29; ((with_reducible refine HB1.out.mono ?_); rintro e w8 ⟨rfl, hg8⟩; have HG8 := Lib.hid (grown_trans HGQ.out hg8); clear hg8))
                  | ((with_reducible refine pp.store_new' x _ _ ?_ ?_ HX16.out ?_); (rfl); (rfl); obtain ⟨BX, hBX⟩ : ∃ B, w8.heap.size = B := ⟨_, rfl⟩; obtain ⟨w9, hw9⟩ : ∃ z, w8.alloc (.cells (pp.row x) 29) = z := ⟨_, rfl⟩; have hg9 : w8.grownBy w9 none := (by rw [← hw9]; exact grown_alloc (grown_refl _ _) _); have HX9 : Hid (w9.heap[BX]? = some (.cells (pp.row x) 29 (0, 0))) := Lib.hid (by rw [← hw9, ← hBX]; exact heap_alloc_new _ _); have HG9 := Lib.hid (grown_trans HG8.out hg9); have HB2 := Lib.hid (blk_of HO7.out HG9.out HMB2.out (q : Int)); rw [← HY.out] at HB2; rw [hw9, hBX]; clear hw9 hBX hg9)
                  | (go_at_call 29; ((with_reducible refine HB2.out.mono ?_); rintro e wu ⟨rfl, hgu⟩; have HGU := Lib.hid (grown_trans HG9.out hgu); have HXU := Lib.hid (row_up HX9.out hgu); clear hgu))
                  | ((with_reducible refine pp.store_new' y _ _ ?_ ?_ HY16.out ?_); (rfl); (rfl); obtain ⟨BY, hBY⟩ : ∃ B, wu.heap.size = B := ⟨_, rfl⟩; obtain ⟨wy, hwy⟩ : ∃ z, wu.alloc (.cells (pp.row y) 29) = z := ⟨_, rfl⟩; have hgy : wu.grownBy wy none := (by rw [← hwy]; exact grown_alloc (grown_refl _ _) _); have HYY : Hid (wy.heap[BY]? = some (.cells (pp.row y) 29 (0, 0))) := Lib.hid (by rw [← hwy, ← hBY]; exact heap_alloc_new _ _); have HXY := Lib.hid (row_up HXU.out hgy); have HGY := Lib.hid (grown_trans HGU.out hgy); have hlk := look_bm (HB7.out.grown HGY.out) y HYS.out; obtain ⟨n0, _, _, n3, _⟩ := note_cells (tt.range_of (row_up HX7.out HGY.out)); rw [Nat.zero_add] at n3; rw [HNQ.out] at n3; rw [HKK.out] at n0; rw [hwy, hBY]; clear hwy hBY hgy)
                  | ((with_reducible refine pp.load_any x _ BX ?_ HXY.out HX16.out ?_); (rfl))
                  | ((with_reducible refine pp.load_any y _ BY ?_ HYY.out HY16.out ?_); (rfl))
                  | ((with_reducible refine load_gb y _ BY ?_ ?_ HYY.out HY16.out ?_); (rfl); (rfl)))
                go_roundw
                case rel => exact ⟨q + 1, by omega, by go_num, HGY.out⟩
                case measure => simp [intOf]; omega
          · have hqe : q = nb := by omega
            clear hq hlq hq256
            go_wp2_with fail
            go_roundw
            case rel => exact ⟨j + 1, F2, (n.d :: S), by omega, by go_num, by rw [take_snoc HN.out, stOf_snoc, ← HH1.out, ← HH2.out]; exact HO7.out.grown HGQ.out, HMB2.out, HB7.out.grown HGQ.out, HNM2.out, by rw [take_snoc HN.out, stOf_snoc, ← HH1.out]; exact fun m hm e => (List.mem_cons.1 (take_wt HI1.out n m hm)).elim (fun q => by rw [q] at e ⊢; exact HSN.out e) (fun hm => HSW.out m hm e)⟩
            case measure => simp [intOf]; omega
      · rw [Bool.not_eq_true] at hh
        have HHH := Lib.hid hh
        have HSN : Hid (n.h = true → n.d ∈ S) := Lib.hid (fun e => by rw [hh] at e; cases e)
        have HSW : Hid (∀ m ∈ H1.wt, m.h = true → m.d ∈ S) := Lib.hid (HWS.out)
        have HCPF : Hid (∀ w1, Own wz w1 h c F1 H1 → Hid (Calls Tryd.prog 28 #[.pointer (some ⟨mb, 0, none⟩)] w1 fun e w' => ∃ b' v', e = .returned (.pointer (some ⟨b', 0, none⟩)) ∧ pp.Mem w' b' v' H1.mm ∧ w1.grownBy w' none ∧ w1.heap.size ≤ b' ∧ ∀ k, v'.ownBlock = some k → w1.heap.size ≤ k)) := Lib.hid fun w1 O => Lib.hid (by
          have M := O.at'.mem
          rw [HMB.out] at M
          exact pp.copy_any mb F1.mv H1.mm w1 M (by rw [O.at'.inv.lm]; have := HNB.out; have := HNB2.out; omega))
        clear hh
        go_wp2_with (first
          | ((with_reducible refine tt.load_na n _ b (off + j * 24) ?_ HR.out ?_); (rfl))
          | ((with_reducible refine tt.store_new n _ _ _ ?_ ?_ ?_ ?_); (rfl); (rfl); (rfl); rw [HWA.out, HBN.out]; have n6 := tt.cell_at (tt.range_of HXA.out) 6 _ rfl; rw [HHH.out] at n6; have HOB := HOA; have HBB := HBA; have HXB := HXA; have HCP := HCPF.out _ HOA.out)
          | (go_at_call 28; ((with_reducible refine HCP.out.mono ?_); rintro e w6 ⟨wb, wv, rfl, hM, hg6, hb6, hv6⟩; have HO6 := Lib.hid (HOB.out.grown hg6); have HB6 := Lib.hid (HBB.out.grown hg6); have HX6 := Lib.hid (row_up HXB.out hg6); have HNW : Hid (¬ F1.own wb ∧ ∀ k, wv.ownBlock = some k → ¬ F1.own k) := Lib.hid ⟨fun e => by have := HOB.out.at'.own_lt e; omega, fun k hk e => by have := HOB.out.at'.own_lt e; have := hv6 k hk; omega⟩; have HM6 := Lib.hid hM; have HTK := Lib.hid (own_take HT.out HO6.out n HWN.out); clear hM hg6 hb6 hv6))
          | ((with_reducible refine tt.load_nt n _ BN ?_ (tt.range_of HX6.out) ?_); (rfl))
          | (go_at_call 16; ((with_reducible refine HTK.out.mono ?_); rintro e w7 ⟨F2, v, rfl, ho, hS, hD, _⟩; rw [← HH2.out] at ho; have HO7 := Lib.hid ho; have HX7 := Lib.hid (hD.heap HX6.out HNN.out); have HM7 := Lib.hid (hD.mem HO6.out.at' HM6.out HNW.out.1 HNW.out.2); have HB7 := Lib.hid (HB6.out.same (hD.block mp HB6.out.lt HNM.out)); have HNM2 := Lib.hid (hD.own HB6.out.lt HNM.out); have HMB2 : Hid (F2.mb = mb) := Lib.hid (hD.mb.trans HMB.out); obtain ⟨d0, d1, d2, d3, d4, d5, d6, d7⟩ := HA.out.grown ho.old; rw [HNB.out] at d3; obtain ⟨ev, hev⟩ : ∃ x, x = (take c H1 n).2.2 := ⟨_, rfl⟩; rw [← hev]; have HEV := Lib.hid hev; clear ho hS hD hev)))
        clear HOA HBA HXA HOB HBB HXB HCP HCPF HO6 HB6 HX6 HM6 HTK HNW HWA HBN HO HBM
        go_loopw [71] (fun i wq => ∃ q : Nat, q ≤ nb ∧ i = .int .i64 (q : Int) ∧ w7.grownBy wq none) (fun i _ => nb - (intOf i).toNat)
        case atStart => exact ⟨0, Nat.zero_le _, rfl, grown_refl _ _⟩
        case round =>
          obtain ⟨q, hq, rfl, hgq⟩ := hrel
          have HGQ := Lib.hid hgq
          have hq256 := HNB2.out
          clear hgq d0 d1 d2 d3 d4 d5 d6 d7
          by_cases hlq : q < nb
          · have HM8 := Lib.hid (HM7.out.kept HGQ.out)
            have HOQ := Lib.hid (HO7.out.grown HGQ.out)
            have HB1 := Lib.hid (pp.block_any HM8.out (q : Int))
            have hx16 := pp.getB_length HM8.out (q : Int)
            have hy16 := pp.getB_length HOQ.out.at'.mem (q : Int)
            have HFA : Hid (pp.getB H1.mm (q : Int) ≠ pp.getB H2.mm (q : Int) → _) := Lib.hid (fun hne => memory_facts HI1.out n HWN.out S HSN.out HSW.out q (by rw [← HH2.out]; exact hne))
            rw [← HH2.out] at HFA
            obtain ⟨x, hx⟩ : ∃ x, x = pp.getB H1.mm (q : Int) := ⟨_, rfl⟩
            obtain ⟨y, hy⟩ : ∃ x, x = pp.getB H2.mm (q : Int) := ⟨_, rfl⟩
            rw [← hx] at HB1 hx16 HFA
            rw [← hy] at hy16 HFA
            have HX16 := Lib.hid hx16
            have HY16 := Lib.hid hy16
            have HY := Lib.hid hy
            clear hx hy hx16 hy16 HM8 HOQ
            by_cases hxy : x = y
            · have h30 : ∀ w, (binOp .neq 29 (.agg (pp.row x)) (.agg (pp.row y))).run Tryd.prog w = .ok (.bool false) w := fun w => by rw [pp.q30 w x y HX16.out HY16.out, hxy]; simp
              clear HFA hxy
              go_wp2_with (first
                | (go_at_call 29; ((with_reducible refine HB1.out.mono ?_); rintro e w8 ⟨rfl, hg8⟩; have HG8 := Lib.hid (grown_trans HGQ.out hg8); clear hg8))
                | ((with_reducible refine pp.store_new' x _ _ ?_ ?_ HX16.out ?_); (rfl); (rfl); obtain ⟨BX, hBX⟩ : ∃ B, w8.heap.size = B := ⟨_, rfl⟩; obtain ⟨w9, hw9⟩ : ∃ z, w8.alloc (.cells (pp.row x) 29) = z := ⟨_, rfl⟩; have hg9 : w8.grownBy w9 none := (by rw [← hw9]; exact grown_alloc (grown_refl _ _) _); have HX9 : Hid (w9.heap[BX]? = some (.cells (pp.row x) 29 (0, 0))) := Lib.hid (by rw [← hw9, ← hBX]; exact heap_alloc_new _ _); have HG9 := Lib.hid (grown_trans HG8.out hg9); have HB2 := Lib.hid (blk_of HO7.out HG9.out HMB2.out (q : Int)); rw [← HY.out] at HB2; rw [hw9, hBX]; clear hw9 hBX hg9)
                | (go_at_call 29; ((with_reducible refine HB2.out.mono ?_); rintro e wu ⟨rfl, hgu⟩; have HGU := Lib.hid (grown_trans HG9.out hgu); have HXU := Lib.hid (row_up HX9.out hgu); clear hgu))
                | ((with_reducible refine pp.store_new' y _ _ ?_ ?_ HY16.out ?_); (rfl); (rfl); obtain ⟨BY, hBY⟩ : ∃ B, wu.heap.size = B := ⟨_, rfl⟩; obtain ⟨wy, hwy⟩ : ∃ z, wu.alloc (.cells (pp.row y) 29) = z := ⟨_, rfl⟩; have hgy : wu.grownBy wy none := (by rw [← hwy]; exact grown_alloc (grown_refl _ _) _); have HYY : Hid (wy.heap[BY]? = some (.cells (pp.row y) 29 (0, 0))) := Lib.hid (by rw [← hwy, ← hBY]; exact heap_alloc_new _ _); have HXY := Lib.hid (row_up HXU.out hgy); have HGY := Lib.hid (grown_trans HGU.out hgy); skip; rw [hwy, hBY]; clear hwy hBY hgy)
                | ((with_reducible refine pp.load_any x _ BX ?_ HXY.out HX16.out ?_); (rfl))
                | ((with_reducible refine pp.load_any y _ BY ?_ HYY.out HY16.out ?_); (rfl))
                | ((with_reducible refine load_gb y _ BY ?_ ?_ HYY.out HY16.out ?_); (rfl); (rfl)))
              go_roundw
              case rel => exact ⟨q + 1, by omega, by go_num, HGY.out⟩
              case measure => simp [intOf]; omega
            · obtain ⟨hrd, hyS, hnb, hkk⟩ := HFA.out hxy
              have h30 : ∀ w, (binOp .neq 29 (.agg (pp.row x)) (.agg (pp.row y))).run Tryd.prog w = .ok (.bool true) w := fun w => by rw [pp.q30 w x y HX16.out HY16.out]; simp [hxy]
              have HYS := Lib.hid hyS
              have HNQ := Lib.hid hnb
              have hev0 : ev = 0 := by rw [HEV.out]; exact take_ok hrd
              clear HFA hxy hrd hyS hnb
              subst hev0
              rcases hkk with hk | hk | hk | hk
              · have HKK := Lib.hid hk
                clear hk
                go_wp2_with (first
                  | (go_at_call 29; ((with_reducible refine HB1.out.mono ?_); rintro e w8 ⟨rfl, hg8⟩; have HG8 := Lib.hid (grown_trans HGQ.out hg8); clear hg8))
                  | ((with_reducible refine pp.store_new' x _ _ ?_ ?_ HX16.out ?_); (rfl); (rfl); obtain ⟨BX, hBX⟩ : ∃ B, w8.heap.size = B := ⟨_, rfl⟩; obtain ⟨w9, hw9⟩ : ∃ z, w8.alloc (.cells (pp.row x) 29) = z := ⟨_, rfl⟩; have hg9 : w8.grownBy w9 none := (by rw [← hw9]; exact grown_alloc (grown_refl _ _) _); have HX9 : Hid (w9.heap[BX]? = some (.cells (pp.row x) 29 (0, 0))) := Lib.hid (by rw [← hw9, ← hBX]; exact heap_alloc_new _ _); have HG9 := Lib.hid (grown_trans HG8.out hg9); have HB2 := Lib.hid (blk_of HO7.out HG9.out HMB2.out (q : Int)); rw [← HY.out] at HB2; rw [hw9, hBX]; clear hw9 hBX hg9)
                  | (go_at_call 29; ((with_reducible refine HB2.out.mono ?_); rintro e wu ⟨rfl, hgu⟩; have HGU := Lib.hid (grown_trans HG9.out hgu); have HXU := Lib.hid (row_up HX9.out hgu); clear hgu))
                  | ((with_reducible refine pp.store_new' y _ _ ?_ ?_ HY16.out ?_); (rfl); (rfl); obtain ⟨BY, hBY⟩ : ∃ B, wu.heap.size = B := ⟨_, rfl⟩; obtain ⟨wy, hwy⟩ : ∃ z, wu.alloc (.cells (pp.row y) 29) = z := ⟨_, rfl⟩; have hgy : wu.grownBy wy none := (by rw [← hwy]; exact grown_alloc (grown_refl _ _) _); have HYY : Hid (wy.heap[BY]? = some (.cells (pp.row y) 29 (0, 0))) := Lib.hid (by rw [← hwy, ← hBY]; exact heap_alloc_new _ _); have HXY := Lib.hid (row_up HXU.out hgy); have HGY := Lib.hid (grown_trans HGU.out hgy); have hlk := look_bm (HB7.out.grown HGY.out) y HYS.out; obtain ⟨n0, _, _, n3, _⟩ := note_cells (tt.range_of (row_up HX7.out HGY.out)); rw [Nat.zero_add] at n3; rw [HNQ.out] at n3; rw [HKK.out] at n0; rw [hwy, hBY]; clear hwy hBY hgy)
                  | ((with_reducible refine pp.load_any x _ BX ?_ HXY.out HX16.out ?_); (rfl))
                  | ((with_reducible refine pp.load_any y _ BY ?_ HYY.out HY16.out ?_); (rfl))
                  | ((with_reducible refine load_gb y _ BY ?_ ?_ HYY.out HY16.out ?_); (rfl); (rfl)))
                go_roundw
                case rel => exact ⟨q + 1, by omega, by go_num, HGY.out⟩
                case measure => simp [intOf]; omega
              · have HKK := Lib.hid hk
                clear hk
                go_wp2_with (first
                  | (go_at_call 29; ((with_reducible refine HB1.out.mono ?_); rintro e w8 ⟨rfl, hg8⟩; have HG8 := Lib.hid (grown_trans HGQ.out hg8); clear hg8))
                  | ((with_reducible refine pp.store_new' x _ _ ?_ ?_ HX16.out ?_); (rfl); (rfl); obtain ⟨BX, hBX⟩ : ∃ B, w8.heap.size = B := ⟨_, rfl⟩; obtain ⟨w9, hw9⟩ : ∃ z, w8.alloc (.cells (pp.row x) 29) = z := ⟨_, rfl⟩; have hg9 : w8.grownBy w9 none := (by rw [← hw9]; exact grown_alloc (grown_refl _ _) _); have HX9 : Hid (w9.heap[BX]? = some (.cells (pp.row x) 29 (0, 0))) := Lib.hid (by rw [← hw9, ← hBX]; exact heap_alloc_new _ _); have HG9 := Lib.hid (grown_trans HG8.out hg9); have HB2 := Lib.hid (blk_of HO7.out HG9.out HMB2.out (q : Int)); rw [← HY.out] at HB2; rw [hw9, hBX]; clear hw9 hBX hg9)
                  | (go_at_call 29; ((with_reducible refine HB2.out.mono ?_); rintro e wu ⟨rfl, hgu⟩; have HGU := Lib.hid (grown_trans HG9.out hgu); have HXU := Lib.hid (row_up HX9.out hgu); clear hgu))
                  | ((with_reducible refine pp.store_new' y _ _ ?_ ?_ HY16.out ?_); (rfl); (rfl); obtain ⟨BY, hBY⟩ : ∃ B, wu.heap.size = B := ⟨_, rfl⟩; obtain ⟨wy, hwy⟩ : ∃ z, wu.alloc (.cells (pp.row y) 29) = z := ⟨_, rfl⟩; have hgy : wu.grownBy wy none := (by rw [← hwy]; exact grown_alloc (grown_refl _ _) _); have HYY : Hid (wy.heap[BY]? = some (.cells (pp.row y) 29 (0, 0))) := Lib.hid (by rw [← hwy, ← hBY]; exact heap_alloc_new _ _); have HXY := Lib.hid (row_up HXU.out hgy); have HGY := Lib.hid (grown_trans HGU.out hgy); have hlk := look_bm (HB7.out.grown HGY.out) y HYS.out; obtain ⟨n0, _, _, n3, _⟩ := note_cells (tt.range_of (row_up HX7.out HGY.out)); rw [Nat.zero_add] at n3; rw [HNQ.out] at n3; rw [HKK.out] at n0; rw [hwy, hBY]; clear hwy hBY hgy)
                  | ((with_reducible refine pp.load_any x _ BX ?_ HXY.out HX16.out ?_); (rfl))
                  | ((with_reducible refine pp.load_any y _ BY ?_ HYY.out HY16.out ?_); (rfl))
                  | ((with_reducible refine load_gb y _ BY ?_ ?_ HYY.out HY16.out ?_); (rfl); (rfl)))
                go_roundw
                case rel => exact ⟨q + 1, by omega, by go_num, HGY.out⟩
                case measure => simp [intOf]; omega
              · have HKK := Lib.hid hk
                clear hk
                go_wp2_with (first
                  | (go_at_call 29; ((with_reducible refine HB1.out.mono ?_); rintro e w8 ⟨rfl, hg8⟩; have HG8 := Lib.hid (grown_trans HGQ.out hg8); clear hg8))
                  | ((with_reducible refine pp.store_new' x _ _ ?_ ?_ HX16.out ?_); (rfl); (rfl); obtain ⟨BX, hBX⟩ : ∃ B, w8.heap.size = B := ⟨_, rfl⟩; obtain ⟨w9, hw9⟩ : ∃ z, w8.alloc (.cells (pp.row x) 29) = z := ⟨_, rfl⟩; have hg9 : w8.grownBy w9 none := (by rw [← hw9]; exact grown_alloc (grown_refl _ _) _); have HX9 : Hid (w9.heap[BX]? = some (.cells (pp.row x) 29 (0, 0))) := Lib.hid (by rw [← hw9, ← hBX]; exact heap_alloc_new _ _); have HG9 := Lib.hid (grown_trans HG8.out hg9); have HB2 := Lib.hid (blk_of HO7.out HG9.out HMB2.out (q : Int)); rw [← HY.out] at HB2; rw [hw9, hBX]; clear hw9 hBX hg9)
                  | (go_at_call 29; ((with_reducible refine HB2.out.mono ?_); rintro e wu ⟨rfl, hgu⟩; have HGU := Lib.hid (grown_trans HG9.out hgu); have HXU := Lib.hid (row_up HX9.out hgu); clear hgu))
                  | ((with_reducible refine pp.store_new' y _ _ ?_ ?_ HY16.out ?_); (rfl); (rfl); obtain ⟨BY, hBY⟩ : ∃ B, wu.heap.size = B := ⟨_, rfl⟩; obtain ⟨wy, hwy⟩ : ∃ z, wu.alloc (.cells (pp.row y) 29) = z := ⟨_, rfl⟩; have hgy : wu.grownBy wy none := (by rw [← hwy]; exact grown_alloc (grown_refl _ _) _); have HYY : Hid (wy.heap[BY]? = some (.cells (pp.row y) 29 (0, 0))) := Lib.hid (by rw [← hwy, ← hBY]; exact heap_alloc_new _ _); have HXY := Lib.hid (row_up HXU.out hgy); have HGY := Lib.hid (grown_trans HGU.out hgy); have hlk := look_bm (HB7.out.grown HGY.out) y HYS.out; obtain ⟨n0, _, _, n3, _⟩ := note_cells (tt.range_of (row_up HX7.out HGY.out)); rw [Nat.zero_add] at n3; rw [HNQ.out] at n3; rw [HKK.out] at n0; rw [hwy, hBY]; clear hwy hBY hgy)
                  | ((with_reducible refine pp.load_any x _ BX ?_ HXY.out HX16.out ?_); (rfl))
                  | ((with_reducible refine pp.load_any y _ BY ?_ HYY.out HY16.out ?_); (rfl))
                  | ((with_reducible refine load_gb y _ BY ?_ ?_ HYY.out HY16.out ?_); (rfl); (rfl)))
                go_roundw
                case rel => exact ⟨q + 1, by omega, by go_num, HGY.out⟩
                case measure => simp [intOf]; omega
              · have HKK := Lib.hid hk
                clear hk
                go_wp2_with (first
                  | (go_at_call 29; ((with_reducible refine HB1.out.mono ?_); rintro e w8 ⟨rfl, hg8⟩; have HG8 := Lib.hid (grown_trans HGQ.out hg8); clear hg8))
                  | ((with_reducible refine pp.store_new' x _ _ ?_ ?_ HX16.out ?_); (rfl); (rfl); obtain ⟨BX, hBX⟩ : ∃ B, w8.heap.size = B := ⟨_, rfl⟩; obtain ⟨w9, hw9⟩ : ∃ z, w8.alloc (.cells (pp.row x) 29) = z := ⟨_, rfl⟩; have hg9 : w8.grownBy w9 none := (by rw [← hw9]; exact grown_alloc (grown_refl _ _) _); have HX9 : Hid (w9.heap[BX]? = some (.cells (pp.row x) 29 (0, 0))) := Lib.hid (by rw [← hw9, ← hBX]; exact heap_alloc_new _ _); have HG9 := Lib.hid (grown_trans HG8.out hg9); have HB2 := Lib.hid (blk_of HO7.out HG9.out HMB2.out (q : Int)); rw [← HY.out] at HB2; rw [hw9, hBX]; clear hw9 hBX hg9)
                  | (go_at_call 29; ((with_reducible refine HB2.out.mono ?_); rintro e wu ⟨rfl, hgu⟩; have HGU := Lib.hid (grown_trans HG9.out hgu); have HXU := Lib.hid (row_up HX9.out hgu); clear hgu))
                  | ((with_reducible refine pp.store_new' y _ _ ?_ ?_ HY16.out ?_); (rfl); (rfl); obtain ⟨BY, hBY⟩ : ∃ B, wu.heap.size = B := ⟨_, rfl⟩; obtain ⟨wy, hwy⟩ : ∃ z, wu.alloc (.cells (pp.row y) 29) = z := ⟨_, rfl⟩; have hgy : wu.grownBy wy none := (by rw [← hwy]; exact grown_alloc (grown_refl _ _) _); have HYY : Hid (wy.heap[BY]? = some (.cells (pp.row y) 29 (0, 0))) := Lib.hid (by rw [← hwy, ← hBY]; exact heap_alloc_new _ _); have HXY := Lib.hid (row_up HXU.out hgy); have HGY := Lib.hid (grown_trans HGU.out hgy); have hlk := look_bm (HB7.out.grown HGY.out) y HYS.out; obtain ⟨n0, _, _, n3, _⟩ := note_cells (tt.range_of (row_up HX7.out HGY.out)); rw [Nat.zero_add] at n3; rw [HNQ.out] at n3; rw [HKK.out] at n0; rw [hwy, hBY]; clear hwy hBY hgy)
                  | ((with_reducible refine pp.load_any x _ BX ?_ HXY.out HX16.out ?_); (rfl))
                  | ((with_reducible refine pp.load_any y _ BY ?_ HYY.out HY16.out ?_); (rfl))
                  | ((with_reducible refine load_gb y _ BY ?_ ?_ HYY.out HY16.out ?_); (rfl); (rfl)))
                go_roundw
                case rel => exact ⟨q + 1, by omega, by go_num, HGY.out⟩
                case measure => simp [intOf]; omega
          · have hqe : q = nb := by omega
            clear hq hlq hq256
            go_wp2_with fail
            go_roundw
            case rel => exact ⟨j + 1, F2, S, by omega, by go_num, by rw [take_snoc HN.out, stOf_snoc, ← HH1.out, ← HH2.out]; exact HO7.out.grown HGQ.out, HMB2.out, HB7.out.grown HGQ.out, HNM2.out, by rw [take_snoc HN.out, stOf_snoc, ← HH1.out]; exact fun m hm e => (List.mem_cons.1 (take_wt HI1.out n m hm)).elim (fun q => by rw [q] at e ⊢; exact HSN.out e) (fun hm => HSW.out m hm e)⟩
            case measure => simp [intOf]; omega
    · clear hj hj300
      go_wp2_with (go_at_call 11; ((with_reducible refine (HW.out _ (grown_trans HG0.out HO.out.old)).mono ?_); rintro e w7 ⟨rfl, hg7⟩; have G7 := Lib.hid (grown_trans (grown_trans HG0.out HO.out.old) hg7); clear hg7))
      go_ret
      exact ⟨rfl, G7.out⟩
theorem memory_true (c : Cfg) (ad : Option Addr) (len cap : Nat) (w : World) (T : Tabs w) (ns : List Nt) (hlen : len = ns.length) (hat : NotesAt w ad ns) (hw : ∀ n ∈ ns, Word n ∧ Wide n.d) : Calls Tryd.prog 6 #[.agg c.cells, .slice ad len cap] w fun e w' => e = .returned (.bool true) ∧ w.grownBy w' none := by
  by_cases h : 300 < len
  · exact memory_long c ad len cap w T h
  · by_cases hm : c.may
    · exact memory_some c ad len cap w T ns hlen hat hw (by omega) hm
    · exact memory_no c ad len cap w T (by omega) hm
end Go.Proofs.YtenhdijbcdkfbaaDoor.hh
