/-
  The law NetRoom returns true: the walk. Condition: the tables of bounds and of kinds lie in their variables as the program's text has them; that the notes lie where the argument says.
-/
import Derived.Test.YtoemkhmbeiindaaDoorMq
import Derived.Test.YtoemkhmbeiindaaDoorNg
namespace Go.Proofs.YtoemkhmbeiindaaDoor.tt
open Go Go.ChangeShapes Go.WideShapes Go.ChangeAt Go.RowKit Go.Shelf
set_option linter.unusedVariables false

theorem many_next (ns : List Nt) (n : Nt) : ∀ x y, qput (fun a q => (many ns a q : Int)) n.t (net n.k) ((many ns n.t (net n.k) : Int) + 1) x y = (many (ns ++ [n]) x y : Int) := fun x y => by
  unfold qput
  rw [many_snoc]
  by_cases h : x = n.t ∧ y = net n.k
  · rw [if_pos h, h.1, h.2, isOf_self]; simp
  · have : isOf x y n = false := by
      cases hb : isOf x y n
      · rfl
      · exact absurd (isOf_eq hb) h
    rw [if_neg h, this]; simp
theorem NTurn.map {w w' : World} {t p r : Nat} {c : Cfg} {v v' : Value} {ns : List Nt} {h : Int} {b : Nat} {f : Int → Int → Int} (hT : NTurn w w' t p v v') (H : NetAt w t p c r v ns h) (hm : MapQ w b f) : MapQ w' b f := by
  obtain ⟨es, cl, hb, hr⟩ := hm
  refine ⟨es, cl, (hT.block b (lt_of hb) (fun e => ?_) (fun e => ?_) (fun e => ?_)).trans hb, hr⟩
  · subst e; rw [H.blk] at hb; cases hb
  · subst e; rw [H.pool.blk] at hb; cases hb
  · obtain ⟨cur, hc⟩ := H.pool.sl.type _ e.symm
    rw [hc] at hb; cases hb
theorem Own.map {w0 w w' : World} {t p r : Nat} {c : Cfg} {v : Value} {ns : List Nt} {h : Int} {b : Nat} {f : Int → Int → Int} (H : Own w0 w t p c r v ns h) (hm : MapQ w b f) (hb : w0.heap.size ≤ b) (hg : w.grownBy w' (some b)) : Own w0 w' t p c r v ns h := by
  obtain ⟨es, cl, hmb, hr⟩ := hm
  refine H.beside hg (fun k e => by cases e; exact hb) (fun e => ?_) (fun e => ?_) (fun k hk e => ?_)
  · cases e; rw [H.net.blk] at hmb; cases hmb
  · cases e; rw [H.net.pool.blk] at hmb; cases hmb
  · cases e
    obtain ⟨cur, hc⟩ := H.net.pool.sl.type _ hk
    rw [hc] at hmb; cases hmb
theorem not_map {w : World} {b g o : Nat} {u : Value} {f : Int → Int → Int} (hm : MapQ w b f) (h : w.cell? ⟨g, o, none⟩ = some u) : g ≠ b := fun e => by
  obtain ⟨es, cl, hmb, hr⟩ := hm
  subst e
  simp [World.cell?, hmb] at h
theorem own_send_unfit {w0 w : World} {t p r : Nat} {c : Cfg} {v : Value} {ns : List Nt} {h : Int} (hT : Tab w0) (hK : TabK w0) (H : Own w0 w t p c r v ns h) (n : Nt) (hf : ¬ fits c n) : Calls Tryd.prog 12 #[.pointer (some ⟨t, 0, none⟩), .agg (na n)] w fun e w' => e = .returned (.int .i64 2) ∧ ∃ v', Own w0 w' t p c r v' ns h ∧ NTurn w w' t p v v' :=
  (own_send hT hK H n).mono fun e w' ⟨he, v', ho, ht⟩ => by
    unfold sendE at he
    unfold sendN at ho
    rw [if_neg hf] at he
    rw [if_neg (fun e => hf e.1)] at ho
    exact ⟨he, v', ho, ht⟩
theorem own_send_full {w0 w : World} {t p r : Nat} {c : Cfg} {v : Value} {ns : List Nt} {h : Int} (hT : Tab w0) (hK : TabK w0) (H : Own w0 w t p c r v ns h) (n : Nt) (hf : fits c n) (hr : ¬ many ns n.t (net n.k) < r) : Calls Tryd.prog 12 #[.pointer (some ⟨t, 0, none⟩), .agg (na n)] w fun e w' => e = .returned (.int .i64 7) ∧ ∃ v', Own w0 w' t p c r v' ns h ∧ NTurn w w' t p v v' :=
  (own_send hT hK H n).mono fun e w' ⟨he, v', ho, ht⟩ => by
    unfold sendE at he
    unfold sendN at ho
    rw [if_pos hf, if_neg hr] at he
    rw [if_neg (fun e => hr e.2)] at ho
    exact ⟨he, v', ho, ht⟩
theorem wf_small {x : Int} (h1 : -1 ≤ x) (h2 : x ≤ 1000) : (Lit.int .i64 x).wf = true := by
  simp [Lit.wf, IntKind.min, IntKind.max, IntKind.bits, IntKind.signed]
  omega
set_option maxHeartbeats 1000000 in
theorem room_long (c : Cfg) (room : Int) (ad : Option Addr) (len cap : Nat) (w : World) (hT : Tab w) (hK : TabK w) (h : 100 < len) :
    Calls Tryd.prog 6 #[.agg c.cells, .int .i64 room, .slice ad len cap] w fun e w' => e = .returned (.bool true) ∧ w.grownBy w' none := by
  have hd : decide ((100 : Int) < (len : Int)) = true := by simp; omega
  have hg0 : w.grownBy (w.alloc (.cells c.cells 27)) none := grown_alloc (grown_refl _ _) _
  have HW : Hid (∀ w', w.grownBy w' none → _) := Lib.hid (fun w' h => works_any w' (hT.grown h) (hK.grown h))
  obtain ⟨c0, c1, c2, c3, c4, c5, c6, c7⟩ := cfg_at w c
  have HG0 := Lib.hid hg0
  clear hT hK h hg0
  unfold Cfg.cells at *
  go_enter Tryd.func6, Tryd.ntmps6
  go_wp2_with ((go_at_call 11; ((with_reducible refine (HW.out _ HG0.out).mono ?_); rintro e w3 ⟨rfl, hgw3⟩; have Gw3 := Lib.hid (grown_trans HG0.out hgw3); clear hgw3)))
  go_ret
  exact ⟨rfl, Gw3.out⟩
set_option maxHeartbeats 1000000 in
theorem room_no (c : Cfg) (room : Int) (ad : Option Addr) (len cap : Nat) (w : World) (hT : Tab w) (hK : TabK w) (h : len ≤ 100) (hm : ¬ (c.may ∧ 1 ≤ room ∧ room ≤ 1024)) :
    Calls Tryd.prog 6 #[.agg c.cells, .int .i64 room, .slice ad len cap] w fun e w' => e = .returned (.bool true) ∧ w.grownBy w' none := by
  have hd : decide ((100 : Int) < (len : Int)) = false := by simp; omega
  have hg0 : w.grownBy (w.alloc (.cells c.cells 27)) none := grown_alloc (grown_refl _ _) _
  have HW : Hid (∀ w', w.grownBy w' none → _) := Lib.hid (fun w' h => works_any w' (hT.grown h) (hK.grown h))
  obtain ⟨c0, c1, c2, c3, c4, c5, c6, c7⟩ := cfg_at w c
  have HG0 := Lib.hid hg0
  have HN := Lib.hid (own_new_bad c room _ (hT.grown hg0) hm)
  clear hT hK h hm hg0
  unfold Cfg.cells at HN HG0 HW c0 c1 c2 c3 c4 c5 c6 c7 ⊢
  go_enter Tryd.func6, Tryd.ntmps6
  go_wp2_with (first
    | (go_at_call 9; ((with_reducible refine HN.out.mono ?_); rintro e w2 ⟨rfl, hg2⟩; have HG2 := Lib.hid (grown_trans HG0.out hg2); clear hg2))
    | (go_at_call 11; ((with_reducible refine (HW.out _ HG2.out).mono ?_); rintro e w4 ⟨rfl, hgw4⟩; have Gw4 := Lib.hid (grown_trans HG2.out hgw4); clear hgw4)))
  go_ret
  exact ⟨rfl, Gw4.out⟩

set_option maxRecDepth 1000000 in
set_option maxHeartbeats 8000000 in
theorem room_some (c : Cfg) (r : Nat) (os : List Nt) (ad : Option Addr) (len cap : Nat) (w : World) (hT : Tab w) (hK : TabK w) (hlen : len = os.length) (hat : NotesAt w ad os) (h : len ≤ 100) (hm : c.may) (h1 : 1 ≤ r) (h2 : r ≤ 1024) :
    Calls Tryd.prog 6 #[.agg c.cells, .int .i64 (r : Int), .slice ad len cap] w fun e w' => e = .returned (.bool true) ∧ w.grownBy w' none := by
  have hd : decide ((100 : Int) < (len : Int)) = false := by simp; omega
  have hg0 : w.grownBy (w.alloc (.cells c.cells 27)) none := grown_alloc (grown_refl _ _) _
  have HW : Hid (∀ w', w.grownBy w' none → _) := Lib.hid (fun w' h => works_any w' (hT.grown h) (hK.grown h))
  obtain ⟨c0, c1, c2, c3, c4, c5, c6, c7⟩ := cfg_at w c
  have HG0 := Lib.hid hg0
  have HA := Lib.hid (cfg_at w c)
  have HN := Lib.hid (own_new c r _ (hT.grown hg0) hm h1 h2)
  have HT := Lib.hid (hT.grown hg0)
  have HK := Lib.hid (hK.grown hg0)
  have HAT := Lib.hid (fun w' (h : w.grownBy w' none) => hat.grown h)
  have HL := Lib.hid hlen
  have HLEN := Lib.hid h
  have HR2 := Lib.hid h2
  have HFI : Hid (∀ n w, Calls Tryd.prog 28 _ w _) := Lib.hid (fun n w => rfits_any c n w hm)
  have hw0lt : w.heap.size < (w.alloc (.cells c.cells 27)).heap.size := by simp
  obtain ⟨w0, hw0⟩ : ∃ w0, w0 = (w.alloc (.cells c.cells 27)) := ⟨_, rfl⟩
  have HW0 : Hid ((w.alloc (.cells c.cells 27)) = w0) := Lib.hid hw0.symm
  rw [← hw0] at HA HN HG0 HT HK hw0lt
  have HLT0 := Lib.hid hw0lt
  clear hT hK hm hg0 hat hlen h1 h2 hw0 hw0lt
  unfold Cfg.cells at HN HW0 HFI c0 c1 c2 c3 c4 c5 c6 c7 ⊢
  have hmm := @run_makeMap Tryd.prog
  go_enter Tryd.func6, Tryd.ntmps6
  go_wp2_with (first
    | (go_at_call 9; ((try rw [HW0.out]); (with_reducible refine HN.out.mono ?_); rintro e w2 ⟨t, p, rfl, ho2⟩; have H2 := Lib.hid ho2; have H3 := Lib.hid (ho2.grown (grown_alloc (grown_refl _ _) (.map #[] 0))); have HQ3 := Lib.hid (MapQ.new w2); clear ho2 c0 c1 c2 c3 c4 c5 c6 c7)))
  clear HN hmm
  go_loopw [31] (fun i wr => ∃ (j : Nat) (v : Value) (ns : List Nt), j ≤ len ∧ i = .int .i64 (j : Int) ∧ Own w0 wr t p c r v ns 0 ∧ MapQ wr w2.heap.size (fun a q => (many ns a q : Int))) (fun i _ => len - (intOf i).toNat)
  case atStart => exact ⟨0, _, [], Nat.zero_le _, rfl, H3.out, HQ3.out.congr (fun x y => by simp [many])⟩
  case round =>
    clear H3 HQ3
    obtain ⟨j, v, ns, hj, rfl, ho, hq⟩ := hrel
    have HO := Lib.hid ho
    have HQ := Lib.hid hq
    have hj100 : j ≤ 100 := by have := HLEN.out; omega
    clear ho hq
    by_cases hlt : j < len
    · obtain ⟨n, hn⟩ : ∃ n, os[j]? = some n := ⟨_, List.getElem?_eq_getElem (by have := HL.out; omega)⟩
      obtain ⟨b, off, rfl, hr⟩ := HAT.out _ (grown_trans HG0.out HO.out.old) j n hn
      have HR := Lib.hid hr
      have hga : wr.grownBy (wr.alloc (.cells (na n) 37)) none := grown_alloc (grown_refl _ _) _
      obtain ⟨d0, d1, d2, d3, d4, d5, d6, d7⟩ := HA.out.grown (grown_trans HO.out.old hga)
      have HO1 := Lib.hid (HO.out.grown hga)
      have HQ1 := Lib.hid (HQ.out.grown hga)
      have HX : Hid ((wr.alloc (.cells (na n) 37)).rangeAt wr.heap.size 0 (nt n)) := Lib.hid (range_of (heap_alloc_new _ _))
      have HNE := Lib.hid (HO.out.ne wr.heap.size (Nat.le_refl _))
      have HNT : Hid (∀ w, _) := Lib.hid fun w => net_any n.k w
      clear hn hr hga
      go_wp2_with (first
        | ((with_reducible refine load_na n _ b (off + j * 24) ?_ HR.out ?_); (rfl))
        | ((with_reducible refine store_new n _ _ _ ?_ ?_ ?_ ?_); (rfl); (rfl); (rfl))
        | ((with_reducible refine load_nt n _ wr.heap.size ?_ HX.out ?_); (rfl))
        | (go_at_call 28; ((with_reducible refine (HFI.out n _).mono ?_); rintro e w4 ⟨rfl, hg4⟩; have HO4 := Lib.hid (HO1.out.grown hg4); have HQ4 := Lib.hid (HQ1.out.grown hg4); have HX4 := Lib.hid (range_grown HX.out hg4 (by simp)); clear hg4)))
      have HKC : Hid (∀ w', w4.grownBy w' none → w'.cell? ⟨wr.heap.size, 0, none⟩ = some (.int .u8 n.k) ∧ w'.cell? ⟨wr.heap.size, 2, none⟩ = some (.int .i64 n.t)) := Lib.hid fun w' h' => ⟨cell_at (range_grown HX4.out h' (by simp)) 0 _ rfl, cell_at (range_grown HX4.out h' (by simp)) 2 _ rfl⟩
      obtain ⟨m, hmk⟩ : ∃ m, m = net n.k := ⟨_, rfl⟩
      rw [← hmk] at HNT
      have HMK := Lib.hid hmk
      clear hmk d0 d1 d2 d3 d4 d5 d6 d7
      go_region_held3 (fun w' => (w'.cell? ⟨wr.heap.size, 0, none⟩ = some (.int .u8 n.k) ∧ w'.cell? ⟨wr.heap.size, 2, none⟩ = some (.int .i64 n.t)) ∧ w4.grownBy w' none) (first | exact ⟨HKC.out _ (grown_refl _ _), grown_refl _ _⟩ | exact ⟨HKC.out _ (grown_drew (grown_refl _ _)), grown_drew (grown_refl _ _)⟩ | assumption | exact keepF HKC (by assumption) (by assumption) | exact keepF HKC (by assumption) (grown_drew (grown_refl _ _)) | exact ⟨HKC.out _ (grown_drew (grown_alloc (grown_refl _ _) _)), grown_drew (grown_alloc (grown_refl _ _) _)⟩ | exact keepF HKC (by assumption) (grown_alloc (grown_refl _ _) _)) (first
        | (go_at_call 29; ((refine (HNT.out _).mono ?_); rintro e w9 ⟨rfl, rfl⟩)))
      · skip
        obtain ⟨we, hwe⟩ : ∃ we, (w4.alloc (.cells #[.int .i64 n.t, .int .i64 m] 66)).drew = we := ⟨_, rfl⟩
        have hge : w4.grownBy we none := hwe ▸ grown_drew (grown_alloc (grown_refl _ _) _)
        have hpe : we.heap[w4.heap.size]? = some (.cells #[.int .i64 n.t, .int .i64 m] 66 (0, 0)) := by rw [← hwe]; exact heap_alloc_new w4 _
        rw [hwe]
        have HOE := Lib.hid (HO4.out.grown hge)
        have HQE := Lib.hid (HQ4.out.grown hge)
        have HXE := Lib.hid (range_grown HX4.out hge (by simp))
        have HPE := Lib.hid hpe
        have HLE1 : Hid (wr.heap.size < we.heap.size) := Lib.hid (by have := HXE.out 0 _ rfl; exact World.block_lt_of_cell? we _ this)
        have HLE2 : Hid (w4.heap.size < we.heap.size) := Lib.hid (lt_of hpe)
        have HNEP := Lib.hid (HO4.out.ne w4.heap.size (Nat.le_refl _))
        have HMB : Hid (w0.heap.size ≤ w2.heap.size) := Lib.hid H2.out.old.size
        clear hwe hge hpe
        by_cases hf : fits c n
        · skip
          rw [decide_eq_true hf]
          have hfp := fits_pool hf
          unfold isPool at hfp
          have HWA : Hid ((Lit.int .i64 n.t).wf = true) := Lib.hid (wf_small hfp.1.1 (by have := (ok_ends hf.1).2.2; omega))
          have HWB : Hid ((Lit.int .i64 m).wf = true) := Lib.hid (by rw [HMK.out]; exact wf_small (by omega) (by omega))
          obtain ⟨y, hy⟩ : ∃ y, y = many ns n.t (net n.k) := ⟨_, rfl⟩
          have HY := Lib.hid hy
          have HYL : Hid (y ≤ 65536) := Lib.hid (by rw [hy]; exact Nat.le_trans (many_le _ _ _) (len_64k HOE.out.net.inv))
          have HLK : Hid (∀ w', MapQ w' w2.heap.size (fun a q => (many ns a q : Int)) → (Instr.lookup 63 (.map (some w2.heap.size)) (.agg #[.int .i64 n.t, .int .i64 m]) false).run Tryd.prog w' = .ok (.int .i64 (y : Int)) w') := Lib.hid fun w' h => by
            have := lookup_q h n.t m HWA.out HWB.out
            rw [HY.out, this, HMK.out]
          by_cases hr : y < r
          · skip
            have HSD := Lib.hid (own_send_yes HT.out HK.out HOE.out n ⟨hf, by rw [← hy]; exact hr⟩)
            have HYN : Hid (many (ns ++ [n]) n.t (net n.k) = y + 1) := Lib.hid (by rw [many_snoc, isOf_self, HY.out]; rfl)
            have HPFN := Lib.hid (room_of (r := r) (ns := ns ++ [n]) hf)
            have hyr : decide ((r : Int) ≤ (y : Int)) = false := by simp; omega
            clear hf hfp hy
            go_wp2_with (first
              | ((with_reducible refine load_nt n _ wr.heap.size ?_ HXE.out ?_); (rfl))
              | (go_at_call 12; ((with_reducible refine HSD.out.mono ?_); rintro e w5 ⟨rfl, v5, ho5, ht5⟩; have HO5 := Lib.hid ho5; have HQ5 := Lib.hid (ht5.map HOE.out.net HQE.out); have HX5 := Lib.hid (ht5.range HXE.out HLE1.out HNE.out); have HP5 := Lib.hid ((ht5.block _ HLE2.out HNEP.out.1 HNEP.out.2.1 HNEP.out.2.2).trans HPE.out); have hlk5 := HLK.out _ HQ5.out; have hp0 := (cell_of_row _ _ 0 _ _ _ HP5.out).trans rfl; have hp1 := (cell_of_row _ _ 1 _ _ _ HP5.out).trans rfl; clear ho5 ht5)))
            have HS5 : Hid (MapQ w5.drew w2.heap.size (fun a q => (many ns a q : Int))) := Lib.hid (HQ5.out.grown (grown_drew (grown_refl _ _)))
            obtain ⟨v0, st, w6, hme, hq6, hg6, hst⟩ := count_q HS5.out n.t m HWA.out HWB.out
            obtain ⟨w7, hes, hq7, hg7⟩ := hst ((y : Int) + 1)
            have hwy : IntKind.i64.wrap ((y : Int) + 1) = (y : Int) + 1 := IntWalk.i64_in _ (by have := HYL.out; omega)
            have hlk50 := HLK.out _ HS5.out
            have hlk6 := HLK.out _ hq6
            have HPM : Hid (w4.heap.size ≠ w2.heap.size) := Lib.hid (not_map HQ5.out hp0)
            have hpm : some w4.heap.size ≠ some w2.heap.size := fun e => HPM.out (Option.some.inj e)
            have hp60 := hg6.cell (a := ⟨w4.heap.size, 0, none⟩) hp0 hpm
            have hp61 := hg6.cell (a := ⟨w4.heap.size, 1, none⟩) hp1 hpm
            have hp70 := hg7.cell hp60 hpm
            have hp71 := hg7.cell hp61 hpm
            have hg57 : w5.drew.grownBy w7 (some w2.heap.size) := grown_trans hg6 hg7
            have HO7 := Lib.hid ((HO5.out.grown (grown_drew (grown_refl _ _))).map HS5.out HMB.out hg57)
            have HX7 := Lib.hid (range_grown (range_grown HX5.out (grown_drew (grown_refl w5 none)) (by simp)) hg57 (fun e => not_map HS5.out (cell_at (range_grown HX5.out (grown_drew (grown_refl w5 none)) (by simp)) 0 _ rfl) (Option.some.inj e)))
            have HQ7 : Hid (MapQ w7 w2.heap.size (fun a q => (many (ns ++ [n]) a q : Int))) := Lib.hid (by rw [HMK.out, HY.out] at hq7; exact hq7.congr (many_next ns n))
            clear hst hq6 hq7 hg6 hg7 hg57
            refine wp_region_held_drew (S := fun w' => w'.cell? ⟨w4.heap.size, 0, none⟩ = some (.int .i64 n.t) ∧ w'.cell? ⟨w4.heap.size, 1, none⟩ = some (.int .i64 m)) (by kernel_rfl) ⟨hp0, hp1⟩ (fun hHeld => ?_)
            refine wpAnyH_take (i := 0) (oi := ⟨some 76, Op.move (Operand.tmp 9), _, _, _, _⟩) (v := ?v1) rfl (by kernel_rfl) (by kernel_rfl) (by kernel_rfl) (fun _ _ _ h => h) (Or.inl ⟨by rfl, ?hy1⟩) (by assumption) ?rest1
            case hy1 => ((intro w0 hSw; obtain ⟨hs1, hs2⟩ := hSw; go_simp); try (with_reducible rfl))
            try simp only [Act.put, List.setIfInBounds_toArray, List.set_cons_zero, List.set_cons_succ]
            refine wpAnyH_take (i := 1) (oi := ⟨some 77, Op.load 66 (Operand.tmp 13), _, _, _, _⟩) (v := ?v2) rfl (by kernel_rfl) (by kernel_rfl) (by kernel_rfl) (fun _ _ _ h => h) (Or.inl ⟨by rfl, ?hy2⟩) (by assumption) ?rest2
            case hy2 => ((intro w0 hSw; obtain ⟨hs1, hs2⟩ := hSw; go_simp); try (with_reducible rfl))
            try simp only [Act.put, List.setIfInBounds_toArray, List.set_cons_zero, List.set_cons_succ]
            refine wpAnyH_ready (rs := [2, 4]) (by kernel_rfl) (by simp) ?_
            refine AllReadyH.cons (o := ⟨some 78, Op.lookup 63 (Operand.tmp 76) (Operand.tmp 77) false, _, _, _, _⟩) rfl (fun K hK => ?_) (AllReadyH.cons (o := ⟨some 80, Op.mapEntry 63 (Operand.tmp 76) (Operand.tmp 77), _, _, _, _⟩) rfl (fun K hK => ?_) AllReadyH.nil)
            · skip
              go_simp
              refine hK.out _ _ ⟨hp0, hp1⟩ (fun hHeld => ?_)
              clear hK K
              try simp only [Act.put, List.setIfInBounds_toArray, List.set_cons_zero, List.set_cons_succ]
              refine wpAnyH_take (i := 3) (oi := ⟨some 79, Op.binOp BinOp.add 3 (Operand.tmp 78) (Operand.const (Value.int IntKind.i64 1)) 3, _, _, _, _⟩) (v := ?v3) rfl (by kernel_rfl) (by kernel_rfl) (by kernel_rfl) (fun _ _ _ h => h) (Or.inl ⟨by rfl, ?hy3⟩) (by assumption) ?rest3
              case hy3 => ((intro w0 hSw; go_simp); try (with_reducible rfl))
              try simp only [Act.put, List.setIfInBounds_toArray, List.set_cons_zero, List.set_cons_succ]
              refine wpAnyH_ready (rs := [4]) (by kernel_rfl) (by simp) ?_
              refine AllReadyH.cons (o := ⟨some 80, Op.mapEntry 63 (Operand.tmp 76) (Operand.tmp 77), _, _, _, _⟩) rfl (fun K hK => ?_) AllReadyH.nil
              go_simp
              refine hK.out _ _ ⟨hp60, hp61⟩ (fun hHeld => ?_)
              clear hK K
              try simp only [Act.put, List.setIfInBounds_toArray, List.set_cons_zero, List.set_cons_succ]
              refine wpAnyH_take (i := 5) (oi := ⟨some 81, Op.extract (Operand.tmp 80) 1, _, _, _, _⟩) (v := ?v4) rfl (by kernel_rfl) (by kernel_rfl) (by kernel_rfl) (fun _ _ _ h => h) (Or.inl ⟨by rfl, ?hy4⟩) (by assumption) ?rest4
              case hy4 => ((intro w0 hSw; go_simp); try (with_reducible rfl))
              try simp only [Act.put, List.setIfInBounds_toArray, List.set_cons_zero, List.set_cons_succ]
              refine wpAnyH_ready (rs := [6]) (by kernel_rfl) (by simp) ?_
              refine AllReadyH.cons (o := ⟨none, Op.entryStore 63 (Operand.tmp 76) (Operand.tmp 81) (Operand.tmp 79), _, _, _, _⟩) rfl (fun K hK => ?_) AllReadyH.nil
              go_simp
              refine hK.out _ _ ⟨hp70, hp71⟩ (fun hHeld => ?_)
              clear hK K
              try simp only [Act.put, List.setIfInBounds_toArray, List.set_cons_zero, List.set_cons_succ]
              refine wpAnyH_done (by kernel_rfl) ?_ _
              go_wp2_with fail
              have HFF : Hid (∀ w', w7.grownBy w' none → (((w'.cell? ⟨wr.heap.size, 0, none⟩ = some (.int .u8 n.k) ∧ w'.cell? ⟨wr.heap.size, 2, none⟩ = some (.int .i64 n.t)) ∧ (w'.cell? ⟨w4.heap.size, 0, none⟩ = some (.int .i64 n.t) ∧ w'.cell? ⟨w4.heap.size, 1, none⟩ = some (.int .i64 m))) ∧ (Instr.lookup 63 (.map (some w2.heap.size)) (.agg #[.int .i64 n.t, .int .i64 m]) false).run Tryd.prog w' = .ok (.int .i64 ((y + 1 : Nat) : Int)) w')) := Lib.hid fun w' h' => ⟨⟨⟨cell_at (range_grown HX7.out h' (by simp)) 0 _ rfl, cell_at (range_grown HX7.out h' (by simp)) 2 _ rfl⟩, ⟨h'.cell hp70 (by simp), h'.cell hp71 (by simp)⟩⟩, by
                have := lookup_q (HQ7.out.grown h') n.t m HWA.out HWB.out
                rw [this, HMK.out, HYN.out]⟩
              have HRM : Hid (∀ w', w7.grownBy w' none → Calls Tryd.prog 18 #[.pointer (some ⟨t, 0, none⟩), .int .i64 n.t, .int .i64 m] w' fun e w'' => e = .returned (.int .i64 ((r : Int) - ((y + 1 : Nat) : Int))) ∧ w'.grownBy w'' none) := Lib.hid fun w' h' => by
                have := nroom_any t p c r _ (ns ++ [n]) 0 w' (HO7.out.grown h').net n.t (net n.k)
                rw [HPFN.out, HYN.out, ← HMK.out] at this
                exact this
              obtain ⟨y9, hy9⟩ : ∃ y9 : Nat, y9 = y + 1 := ⟨_, rfl⟩
              rw [← hy9] at HFF HRM
              obtain ⟨d, hd9⟩ : ∃ d, d = (r : Int) - (y9 : Int) := ⟨_, rfl⟩
              rw [← hd9] at HRM
              have hwd : IntKind.i64.wrap ((r : Int) - (y9 : Int)) = d := (IntWalk.i64_in _ (by have := HYL.out; have := HR2.out; omega)).trans hd9.symm
              clear hd9 hy9
              go_region_held3 (fun w' => (((w'.cell? ⟨wr.heap.size, 0, none⟩ = some (.int .u8 n.k) ∧ w'.cell? ⟨wr.heap.size, 2, none⟩ = some (.int .i64 n.t)) ∧ (w'.cell? ⟨w4.heap.size, 0, none⟩ = some (.int .i64 n.t) ∧ w'.cell? ⟨w4.heap.size, 1, none⟩ = some (.int .i64 m))) ∧ (Instr.lookup 63 (.map (some w2.heap.size)) (.agg #[.int .i64 n.t, .int .i64 m]) false).run Tryd.prog w' = .ok (.int .i64 (y9 : Int)) w') ∧ w7.grownBy w' none) (first | exact ⟨HFF.out _ (grown_refl _ _), grown_refl _ _⟩ | exact ⟨HFF.out _ (grown_drew (grown_refl _ _)), grown_drew (grown_refl _ _)⟩ | assumption | exact keepF HFF (by assumption) (by assumption) | exact keepF HFF (by assumption) (grown_drew (grown_refl _ _))) (first
                | (go_at_call 29; ((refine (HNT.out _).mono ?_); rintro e w9 ⟨rfl, rfl⟩))
                | (go_at_call 18; ((refine (HRM.out _ (And.right (by assumption : _ ∧ w7.grownBy _ none))).mono ?_); rintro e w10 ⟨rfl, hg10⟩)))
              all_goals
                have HGE : Hid (w7.grownBy w10 none) := Lib.hid (And.right (by assumption : _ ∧ w7.grownBy w10 none))
                go_wp2_with fail
                go_roundw
                case rel => exact ⟨j + 1, _, _, by omega, by go_num, HO7.out.grown HGE.out, HQ7.out.grown HGE.out⟩
                case measure => simp [intOf]; omega
            · skip
              go_simp
              refine hK.out _ _ ⟨hp60, hp61⟩ (fun hHeld => ?_)
              clear hK K
              try simp only [Act.put, List.setIfInBounds_toArray, List.set_cons_zero, List.set_cons_succ]
              refine wpAnyH_take (i := 5) (oi := ⟨some 81, Op.extract (Operand.tmp 80) 1, _, _, _, _⟩) (v := ?v5) rfl (by kernel_rfl) (by kernel_rfl) (by kernel_rfl) (fun _ _ _ h => h) (Or.inl ⟨by rfl, ?hy5⟩) (by assumption) ?rest5
              case hy5 => ((intro w0 hSw; go_simp); try (with_reducible rfl))
              try simp only [Act.put, List.setIfInBounds_toArray, List.set_cons_zero, List.set_cons_succ]
              refine wpAnyH_ready (rs := [2]) (by kernel_rfl) (by simp) ?_
              refine AllReadyH.cons (o := ⟨some 78, Op.lookup 63 (Operand.tmp 76) (Operand.tmp 77) false, _, _, _, _⟩) rfl (fun K hK => ?_) AllReadyH.nil
              go_simp
              refine hK.out _ _ ⟨hp60, hp61⟩ (fun hHeld => ?_)
              clear hK K
              try simp only [Act.put, List.setIfInBounds_toArray, List.set_cons_zero, List.set_cons_succ]
              refine wpAnyH_take (i := 3) (oi := ⟨some 79, Op.binOp BinOp.add 3 (Operand.tmp 78) (Operand.const (Value.int IntKind.i64 1)) 3, _, _, _, _⟩) (v := ?v6) rfl (by kernel_rfl) (by kernel_rfl) (by kernel_rfl) (fun _ _ _ h => h) (Or.inl ⟨by rfl, ?hy6⟩) (by assumption) ?rest6
              case hy6 => ((intro w0 hSw; go_simp); try (with_reducible rfl))
              try simp only [Act.put, List.setIfInBounds_toArray, List.set_cons_zero, List.set_cons_succ]
              refine wpAnyH_ready (rs := [6]) (by kernel_rfl) (by simp) ?_
              refine AllReadyH.cons (o := ⟨none, Op.entryStore 63 (Operand.tmp 76) (Operand.tmp 81) (Operand.tmp 79), _, _, _, _⟩) rfl (fun K hK => ?_) AllReadyH.nil
              go_simp
              refine hK.out _ _ ⟨hp70, hp71⟩ (fun hHeld => ?_)
              clear hK K
              try simp only [Act.put, List.setIfInBounds_toArray, List.set_cons_zero, List.set_cons_succ]
              refine wpAnyH_done (by kernel_rfl) ?_ _
              go_wp2_with fail
              have HFF : Hid (∀ w', w7.grownBy w' none → (((w'.cell? ⟨wr.heap.size, 0, none⟩ = some (.int .u8 n.k) ∧ w'.cell? ⟨wr.heap.size, 2, none⟩ = some (.int .i64 n.t)) ∧ (w'.cell? ⟨w4.heap.size, 0, none⟩ = some (.int .i64 n.t) ∧ w'.cell? ⟨w4.heap.size, 1, none⟩ = some (.int .i64 m))) ∧ (Instr.lookup 63 (.map (some w2.heap.size)) (.agg #[.int .i64 n.t, .int .i64 m]) false).run Tryd.prog w' = .ok (.int .i64 ((y + 1 : Nat) : Int)) w')) := Lib.hid fun w' h' => ⟨⟨⟨cell_at (range_grown HX7.out h' (by simp)) 0 _ rfl, cell_at (range_grown HX7.out h' (by simp)) 2 _ rfl⟩, ⟨h'.cell hp70 (by simp), h'.cell hp71 (by simp)⟩⟩, by
                have := lookup_q (HQ7.out.grown h') n.t m HWA.out HWB.out
                rw [this, HMK.out, HYN.out]⟩
              have HRM : Hid (∀ w', w7.grownBy w' none → Calls Tryd.prog 18 #[.pointer (some ⟨t, 0, none⟩), .int .i64 n.t, .int .i64 m] w' fun e w'' => e = .returned (.int .i64 ((r : Int) - ((y + 1 : Nat) : Int))) ∧ w'.grownBy w'' none) := Lib.hid fun w' h' => by
                have := nroom_any t p c r _ (ns ++ [n]) 0 w' (HO7.out.grown h').net n.t (net n.k)
                rw [HPFN.out, HYN.out, ← HMK.out] at this
                exact this
              obtain ⟨y9, hy9⟩ : ∃ y9 : Nat, y9 = y + 1 := ⟨_, rfl⟩
              rw [← hy9] at HFF HRM
              obtain ⟨d, hd9⟩ : ∃ d, d = (r : Int) - (y9 : Int) := ⟨_, rfl⟩
              rw [← hd9] at HRM
              have hwd : IntKind.i64.wrap ((r : Int) - (y9 : Int)) = d := (IntWalk.i64_in _ (by have := HYL.out; have := HR2.out; omega)).trans hd9.symm
              clear hd9 hy9
              go_region_held3 (fun w' => (((w'.cell? ⟨wr.heap.size, 0, none⟩ = some (.int .u8 n.k) ∧ w'.cell? ⟨wr.heap.size, 2, none⟩ = some (.int .i64 n.t)) ∧ (w'.cell? ⟨w4.heap.size, 0, none⟩ = some (.int .i64 n.t) ∧ w'.cell? ⟨w4.heap.size, 1, none⟩ = some (.int .i64 m))) ∧ (Instr.lookup 63 (.map (some w2.heap.size)) (.agg #[.int .i64 n.t, .int .i64 m]) false).run Tryd.prog w' = .ok (.int .i64 (y9 : Int)) w') ∧ w7.grownBy w' none) (first | exact ⟨HFF.out _ (grown_refl _ _), grown_refl _ _⟩ | exact ⟨HFF.out _ (grown_drew (grown_refl _ _)), grown_drew (grown_refl _ _)⟩ | assumption | exact keepF HFF (by assumption) (by assumption) | exact keepF HFF (by assumption) (grown_drew (grown_refl _ _))) (first
                | (go_at_call 29; ((refine (HNT.out _).mono ?_); rintro e w9 ⟨rfl, rfl⟩))
                | (go_at_call 18; ((refine (HRM.out _ (And.right (by assumption : _ ∧ w7.grownBy _ none))).mono ?_); rintro e w10 ⟨rfl, hg10⟩)))
              all_goals
                have HGE : Hid (w7.grownBy w10 none) := Lib.hid (And.right (by assumption : _ ∧ w7.grownBy w10 none))
                go_wp2_with fail
                go_roundw
                case rel => exact ⟨j + 1, _, _, by omega, by go_num, HO7.out.grown HGE.out, HQ7.out.grown HGE.out⟩
                case measure => simp [intOf]; omega
          · skip
            have HSD := Lib.hid (own_send_full HT.out HK.out HOE.out n hf (by rw [← hy]; exact hr))
            have HYN : Hid (many ns n.t (net n.k) = y) := Lib.hid hy.symm
            have HPFN := Lib.hid (room_of (r := r) (ns := ns) hf)
            have hyr : (!decide (r ≤ y)) = false := by simp; omega
            clear hf hfp hy
            go_wp2_with (first
              | ((with_reducible refine load_nt n _ wr.heap.size ?_ HXE.out ?_); (rfl))
              | (go_at_call 12; ((with_reducible refine HSD.out.mono ?_); rintro e w5 ⟨rfl, v5, ho5, ht5⟩; have HO5 := Lib.hid ho5; have HQ5 := Lib.hid (ht5.map HOE.out.net HQE.out); have HX5 := Lib.hid (ht5.range HXE.out HLE1.out HNE.out); have HP5 := Lib.hid ((ht5.block _ HLE2.out HNEP.out.1 HNEP.out.2.1 HNEP.out.2.2).trans HPE.out); have hlk5 := HLK.out _ HQ5.out; have hp0 := (cell_of_row _ _ 0 _ _ _ HP5.out).trans rfl; have hp1 := (cell_of_row _ _ 1 _ _ _ HP5.out).trans rfl; clear ho5 ht5)))
            go_wp2_with fail
            have HFF : Hid (∀ w', w5.grownBy w' none → (((w'.cell? ⟨wr.heap.size, 0, none⟩ = some (.int .u8 n.k) ∧ w'.cell? ⟨wr.heap.size, 2, none⟩ = some (.int .i64 n.t)) ∧ (w'.cell? ⟨w4.heap.size, 0, none⟩ = some (.int .i64 n.t) ∧ w'.cell? ⟨w4.heap.size, 1, none⟩ = some (.int .i64 m))) ∧ (Instr.lookup 63 (.map (some w2.heap.size)) (.agg #[.int .i64 n.t, .int .i64 m]) false).run Tryd.prog w' = .ok (.int .i64 ((y : Nat) : Int)) w')) := Lib.hid fun w' h' => ⟨⟨⟨cell_at (range_grown HX5.out h' (by simp)) 0 _ rfl, cell_at (range_grown HX5.out h' (by simp)) 2 _ rfl⟩, ⟨h'.cell hp0 (by simp), h'.cell hp1 (by simp)⟩⟩, by
              have := lookup_q (HQ5.out.grown h') n.t m HWA.out HWB.out
              rw [this, HMK.out, HYN.out]⟩
            have HRM : Hid (∀ w', w5.grownBy w' none → Calls Tryd.prog 18 #[.pointer (some ⟨t, 0, none⟩), .int .i64 n.t, .int .i64 m] w' fun e w'' => e = .returned (.int .i64 ((r : Int) - ((y : Nat) : Int))) ∧ w'.grownBy w'' none) := Lib.hid fun w' h' => by
              have := nroom_any t p c r _ ns 0 w' (HO5.out.grown h').net n.t (net n.k)
              rw [HPFN.out, HYN.out, ← HMK.out] at this
              exact this
            obtain ⟨y9, hy9⟩ : ∃ y9 : Nat, y9 = y := ⟨_, rfl⟩
            rw [← hy9] at HFF HRM
            obtain ⟨d, hd9⟩ : ∃ d, d = (r : Int) - (y9 : Int) := ⟨_, rfl⟩
            rw [← hd9] at HRM
            have hwd : IntKind.i64.wrap ((r : Int) - (y9 : Int)) = d := (IntWalk.i64_in _ (by have := HYL.out; have := HR2.out; omega)).trans hd9.symm
            clear hd9 hy9
            go_region_held3 (fun w' => (((w'.cell? ⟨wr.heap.size, 0, none⟩ = some (.int .u8 n.k) ∧ w'.cell? ⟨wr.heap.size, 2, none⟩ = some (.int .i64 n.t)) ∧ (w'.cell? ⟨w4.heap.size, 0, none⟩ = some (.int .i64 n.t) ∧ w'.cell? ⟨w4.heap.size, 1, none⟩ = some (.int .i64 m))) ∧ (Instr.lookup 63 (.map (some w2.heap.size)) (.agg #[.int .i64 n.t, .int .i64 m]) false).run Tryd.prog w' = .ok (.int .i64 (y9 : Int)) w') ∧ w5.grownBy w' none) (first | exact ⟨HFF.out _ (grown_refl _ _), grown_refl _ _⟩ | exact ⟨HFF.out _ (grown_drew (grown_refl _ _)), grown_drew (grown_refl _ _)⟩ | assumption | exact keepF HFF (by assumption) (by assumption) | exact keepF HFF (by assumption) (grown_drew (grown_refl _ _))) (first
              | (go_at_call 29; ((refine (HNT.out _).mono ?_); rintro e w9 ⟨rfl, rfl⟩))
              | (go_at_call 18; ((refine (HRM.out _ (And.right (by assumption : _ ∧ w5.grownBy _ none))).mono ?_); rintro e w10 ⟨rfl, hg10⟩)))
            all_goals
              have HGE : Hid (w5.grownBy w10 none) := Lib.hid (And.right (by assumption : _ ∧ w5.grownBy w10 none))
              go_wp2_with fail
              go_roundw
              case rel => exact ⟨j + 1, _, _, by omega, by go_num, HO5.out.grown HGE.out, HQ5.out.grown HGE.out⟩
              case measure => simp [intOf]; omega
        · skip
          rw [decide_eq_false hf]
          have HSD := Lib.hid (own_send_unfit HT.out HK.out HOE.out n hf)
          clear hf
          go_wp2_with (first
            | ((with_reducible refine load_nt n _ wr.heap.size ?_ HXE.out ?_); (rfl))
            | (go_at_call 12; ((with_reducible refine HSD.out.mono ?_); rintro e w5 ⟨rfl, v5, ho5, ht5⟩; have HO5 := Lib.hid ho5; have HQ5 := Lib.hid (ht5.map HOE.out.net HQE.out); clear ho5 ht5)))
          go_quiet (fail)
          go_wp2_with fail
          go_roundw
          case rel => exact ⟨j + 1, _, _, by omega, by go_num, HO5.out.grown (grown_drewN (grown_refl _ _) _), HQ5.out.grown (grown_drewN (grown_refl _ _) _)⟩
          case measure => simp [intOf]; omega
      · skip
        obtain ⟨we, hwe⟩ : ∃ we, (w4.alloc (.cells #[.int .i64 n.t, .int .i64 m] 66)).drew = we := ⟨_, rfl⟩
        have hge : w4.grownBy we none := hwe ▸ grown_drew (grown_alloc (grown_refl _ _) _)
        have hpe : we.heap[w4.heap.size]? = some (.cells #[.int .i64 n.t, .int .i64 m] 66 (0, 0)) := by rw [← hwe]; exact heap_alloc_new w4 _
        rw [hwe]
        have HOE := Lib.hid (HO4.out.grown hge)
        have HQE := Lib.hid (HQ4.out.grown hge)
        have HXE := Lib.hid (range_grown HX4.out hge (by simp))
        have HPE := Lib.hid hpe
        have HLE1 : Hid (wr.heap.size < we.heap.size) := Lib.hid (by have := HXE.out 0 _ rfl; exact World.block_lt_of_cell? we _ this)
        have HLE2 : Hid (w4.heap.size < we.heap.size) := Lib.hid (lt_of hpe)
        have HNEP := Lib.hid (HO4.out.ne w4.heap.size (Nat.le_refl _))
        have HMB : Hid (w0.heap.size ≤ w2.heap.size) := Lib.hid H2.out.old.size
        clear hwe hge hpe
        by_cases hf : fits c n
        · skip
          rw [decide_eq_true hf]
          have hfp := fits_pool hf
          unfold isPool at hfp
          have HWA : Hid ((Lit.int .i64 n.t).wf = true) := Lib.hid (wf_small hfp.1.1 (by have := (ok_ends hf.1).2.2; omega))
          have HWB : Hid ((Lit.int .i64 m).wf = true) := Lib.hid (by rw [HMK.out]; exact wf_small (by omega) (by omega))
          obtain ⟨y, hy⟩ : ∃ y, y = many ns n.t (net n.k) := ⟨_, rfl⟩
          have HY := Lib.hid hy
          have HYL : Hid (y ≤ 65536) := Lib.hid (by rw [hy]; exact Nat.le_trans (many_le _ _ _) (len_64k HOE.out.net.inv))
          have HLK : Hid (∀ w', MapQ w' w2.heap.size (fun a q => (many ns a q : Int)) → (Instr.lookup 63 (.map (some w2.heap.size)) (.agg #[.int .i64 n.t, .int .i64 m]) false).run Tryd.prog w' = .ok (.int .i64 (y : Int)) w') := Lib.hid fun w' h => by
            have := lookup_q h n.t m HWA.out HWB.out
            rw [HY.out, this, HMK.out]
          by_cases hr : y < r
          · skip
            have HSD := Lib.hid (own_send_yes HT.out HK.out HOE.out n ⟨hf, by rw [← hy]; exact hr⟩)
            have HYN : Hid (many (ns ++ [n]) n.t (net n.k) = y + 1) := Lib.hid (by rw [many_snoc, isOf_self, HY.out]; rfl)
            have HPFN := Lib.hid (room_of (r := r) (ns := ns ++ [n]) hf)
            have hyr : decide ((r : Int) ≤ (y : Int)) = false := by simp; omega
            clear hf hfp hy
            go_wp2_with (first
              | ((with_reducible refine load_nt n _ wr.heap.size ?_ HXE.out ?_); (rfl))
              | (go_at_call 12; ((with_reducible refine HSD.out.mono ?_); rintro e w5 ⟨rfl, v5, ho5, ht5⟩; have HO5 := Lib.hid ho5; have HQ5 := Lib.hid (ht5.map HOE.out.net HQE.out); have HX5 := Lib.hid (ht5.range HXE.out HLE1.out HNE.out); have HP5 := Lib.hid ((ht5.block _ HLE2.out HNEP.out.1 HNEP.out.2.1 HNEP.out.2.2).trans HPE.out); have hlk5 := HLK.out _ HQ5.out; have hp0 := (cell_of_row _ _ 0 _ _ _ HP5.out).trans rfl; have hp1 := (cell_of_row _ _ 1 _ _ _ HP5.out).trans rfl; clear ho5 ht5)))
            have HS5 : Hid (MapQ w5.drew w2.heap.size (fun a q => (many ns a q : Int))) := Lib.hid (HQ5.out.grown (grown_drew (grown_refl _ _)))
            obtain ⟨v0, st, w6, hme, hq6, hg6, hst⟩ := count_q HS5.out n.t m HWA.out HWB.out
            obtain ⟨w7, hes, hq7, hg7⟩ := hst ((y : Int) + 1)
            have hwy : IntKind.i64.wrap ((y : Int) + 1) = (y : Int) + 1 := IntWalk.i64_in _ (by have := HYL.out; omega)
            have hlk50 := HLK.out _ HS5.out
            have hlk6 := HLK.out _ hq6
            have HPM : Hid (w4.heap.size ≠ w2.heap.size) := Lib.hid (not_map HQ5.out hp0)
            have hpm : some w4.heap.size ≠ some w2.heap.size := fun e => HPM.out (Option.some.inj e)
            have hp60 := hg6.cell (a := ⟨w4.heap.size, 0, none⟩) hp0 hpm
            have hp61 := hg6.cell (a := ⟨w4.heap.size, 1, none⟩) hp1 hpm
            have hp70 := hg7.cell hp60 hpm
            have hp71 := hg7.cell hp61 hpm
            have hg57 : w5.drew.grownBy w7 (some w2.heap.size) := grown_trans hg6 hg7
            have HO7 := Lib.hid ((HO5.out.grown (grown_drew (grown_refl _ _))).map HS5.out HMB.out hg57)
            have HX7 := Lib.hid (range_grown (range_grown HX5.out (grown_drew (grown_refl w5 none)) (by simp)) hg57 (fun e => not_map HS5.out (cell_at (range_grown HX5.out (grown_drew (grown_refl w5 none)) (by simp)) 0 _ rfl) (Option.some.inj e)))
            have HQ7 : Hid (MapQ w7 w2.heap.size (fun a q => (many (ns ++ [n]) a q : Int))) := Lib.hid (by rw [HMK.out, HY.out] at hq7; exact hq7.congr (many_next ns n))
            clear hst hq6 hq7 hg6 hg7 hg57
            refine wp_region_held_drew (S := fun w' => w'.cell? ⟨w4.heap.size, 0, none⟩ = some (.int .i64 n.t) ∧ w'.cell? ⟨w4.heap.size, 1, none⟩ = some (.int .i64 m)) (by kernel_rfl) ⟨hp0, hp1⟩ (fun hHeld => ?_)
            refine wpAnyH_take (i := 0) (oi := ⟨some 76, Op.move (Operand.tmp 9), _, _, _, _⟩) (v := ?v7) rfl (by kernel_rfl) (by kernel_rfl) (by kernel_rfl) (fun _ _ _ h => h) (Or.inl ⟨by rfl, ?hy7⟩) (by assumption) ?rest7
            case hy7 => ((intro w0 hSw; obtain ⟨hs1, hs2⟩ := hSw; go_simp); try (with_reducible rfl))
            try simp only [Act.put, List.setIfInBounds_toArray, List.set_cons_zero, List.set_cons_succ]
            refine wpAnyH_take (i := 1) (oi := ⟨some 77, Op.load 66 (Operand.tmp 13), _, _, _, _⟩) (v := ?v8) rfl (by kernel_rfl) (by kernel_rfl) (by kernel_rfl) (fun _ _ _ h => h) (Or.inl ⟨by rfl, ?hy8⟩) (by assumption) ?rest8
            case hy8 => ((intro w0 hSw; obtain ⟨hs1, hs2⟩ := hSw; go_simp); try (with_reducible rfl))
            try simp only [Act.put, List.setIfInBounds_toArray, List.set_cons_zero, List.set_cons_succ]
            refine wpAnyH_ready (rs := [2, 4]) (by kernel_rfl) (by simp) ?_
            refine AllReadyH.cons (o := ⟨some 78, Op.lookup 63 (Operand.tmp 76) (Operand.tmp 77) false, _, _, _, _⟩) rfl (fun K hK => ?_) (AllReadyH.cons (o := ⟨some 80, Op.mapEntry 63 (Operand.tmp 76) (Operand.tmp 77), _, _, _, _⟩) rfl (fun K hK => ?_) AllReadyH.nil)
            · skip
              go_simp
              refine hK.out _ _ ⟨hp0, hp1⟩ (fun hHeld => ?_)
              clear hK K
              try simp only [Act.put, List.setIfInBounds_toArray, List.set_cons_zero, List.set_cons_succ]
              refine wpAnyH_take (i := 3) (oi := ⟨some 79, Op.binOp BinOp.add 3 (Operand.tmp 78) (Operand.const (Value.int IntKind.i64 1)) 3, _, _, _, _⟩) (v := ?v9) rfl (by kernel_rfl) (by kernel_rfl) (by kernel_rfl) (fun _ _ _ h => h) (Or.inl ⟨by rfl, ?hy9⟩) (by assumption) ?rest9
              case hy9 => ((intro w0 hSw; go_simp); try (with_reducible rfl))
              try simp only [Act.put, List.setIfInBounds_toArray, List.set_cons_zero, List.set_cons_succ]
              refine wpAnyH_ready (rs := [4]) (by kernel_rfl) (by simp) ?_
              refine AllReadyH.cons (o := ⟨some 80, Op.mapEntry 63 (Operand.tmp 76) (Operand.tmp 77), _, _, _, _⟩) rfl (fun K hK => ?_) AllReadyH.nil
              go_simp
              refine hK.out _ _ ⟨hp60, hp61⟩ (fun hHeld => ?_)
              clear hK K
              try simp only [Act.put, List.setIfInBounds_toArray, List.set_cons_zero, List.set_cons_succ]
              refine wpAnyH_take (i := 5) (oi := ⟨some 81, Op.extract (Operand.tmp 80) 1, _, _, _, _⟩) (v := ?v10) rfl (by kernel_rfl) (by kernel_rfl) (by kernel_rfl) (fun _ _ _ h => h) (Or.inl ⟨by rfl, ?hy10⟩) (by assumption) ?rest10
              case hy10 => ((intro w0 hSw; go_simp); try (with_reducible rfl))
              try simp only [Act.put, List.setIfInBounds_toArray, List.set_cons_zero, List.set_cons_succ]
              refine wpAnyH_ready (rs := [6]) (by kernel_rfl) (by simp) ?_
              refine AllReadyH.cons (o := ⟨none, Op.entryStore 63 (Operand.tmp 76) (Operand.tmp 81) (Operand.tmp 79), _, _, _, _⟩) rfl (fun K hK => ?_) AllReadyH.nil
              go_simp
              refine hK.out _ _ ⟨hp70, hp71⟩ (fun hHeld => ?_)
              clear hK K
              try simp only [Act.put, List.setIfInBounds_toArray, List.set_cons_zero, List.set_cons_succ]
              refine wpAnyH_done (by kernel_rfl) ?_ _
              go_wp2_with fail
              have HFF : Hid (∀ w', w7.grownBy w' none → (((w'.cell? ⟨wr.heap.size, 0, none⟩ = some (.int .u8 n.k) ∧ w'.cell? ⟨wr.heap.size, 2, none⟩ = some (.int .i64 n.t)) ∧ (w'.cell? ⟨w4.heap.size, 0, none⟩ = some (.int .i64 n.t) ∧ w'.cell? ⟨w4.heap.size, 1, none⟩ = some (.int .i64 m))) ∧ (Instr.lookup 63 (.map (some w2.heap.size)) (.agg #[.int .i64 n.t, .int .i64 m]) false).run Tryd.prog w' = .ok (.int .i64 ((y + 1 : Nat) : Int)) w')) := Lib.hid fun w' h' => ⟨⟨⟨cell_at (range_grown HX7.out h' (by simp)) 0 _ rfl, cell_at (range_grown HX7.out h' (by simp)) 2 _ rfl⟩, ⟨h'.cell hp70 (by simp), h'.cell hp71 (by simp)⟩⟩, by
                have := lookup_q (HQ7.out.grown h') n.t m HWA.out HWB.out
                rw [this, HMK.out, HYN.out]⟩
              have HRM : Hid (∀ w', w7.grownBy w' none → Calls Tryd.prog 18 #[.pointer (some ⟨t, 0, none⟩), .int .i64 n.t, .int .i64 m] w' fun e w'' => e = .returned (.int .i64 ((r : Int) - ((y + 1 : Nat) : Int))) ∧ w'.grownBy w'' none) := Lib.hid fun w' h' => by
                have := nroom_any t p c r _ (ns ++ [n]) 0 w' (HO7.out.grown h').net n.t (net n.k)
                rw [HPFN.out, HYN.out, ← HMK.out] at this
                exact this
              obtain ⟨y9, hy9⟩ : ∃ y9 : Nat, y9 = y + 1 := ⟨_, rfl⟩
              rw [← hy9] at HFF HRM
              obtain ⟨d, hd9⟩ : ∃ d, d = (r : Int) - (y9 : Int) := ⟨_, rfl⟩
              rw [← hd9] at HRM
              have hwd : IntKind.i64.wrap ((r : Int) - (y9 : Int)) = d := (IntWalk.i64_in _ (by have := HYL.out; have := HR2.out; omega)).trans hd9.symm
              clear hd9 hy9
              go_region_held3 (fun w' => (((w'.cell? ⟨wr.heap.size, 0, none⟩ = some (.int .u8 n.k) ∧ w'.cell? ⟨wr.heap.size, 2, none⟩ = some (.int .i64 n.t)) ∧ (w'.cell? ⟨w4.heap.size, 0, none⟩ = some (.int .i64 n.t) ∧ w'.cell? ⟨w4.heap.size, 1, none⟩ = some (.int .i64 m))) ∧ (Instr.lookup 63 (.map (some w2.heap.size)) (.agg #[.int .i64 n.t, .int .i64 m]) false).run Tryd.prog w' = .ok (.int .i64 (y9 : Int)) w') ∧ w7.grownBy w' none) (first | exact ⟨HFF.out _ (grown_refl _ _), grown_refl _ _⟩ | exact ⟨HFF.out _ (grown_drew (grown_refl _ _)), grown_drew (grown_refl _ _)⟩ | assumption | exact keepF HFF (by assumption) (by assumption) | exact keepF HFF (by assumption) (grown_drew (grown_refl _ _))) (first
                | (go_at_call 29; ((refine (HNT.out _).mono ?_); rintro e w9 ⟨rfl, rfl⟩))
                | (go_at_call 18; ((refine (HRM.out _ (And.right (by assumption : _ ∧ w7.grownBy _ none))).mono ?_); rintro e w10 ⟨rfl, hg10⟩)))
              all_goals
                have HGE : Hid (w7.grownBy w10 none) := Lib.hid (And.right (by assumption : _ ∧ w7.grownBy w10 none))
                go_wp2_with fail
                go_roundw
                case rel => exact ⟨j + 1, _, _, by omega, by go_num, HO7.out.grown HGE.out, HQ7.out.grown HGE.out⟩
                case measure => simp [intOf]; omega
            · skip
              go_simp
              refine hK.out _ _ ⟨hp60, hp61⟩ (fun hHeld => ?_)
              clear hK K
              try simp only [Act.put, List.setIfInBounds_toArray, List.set_cons_zero, List.set_cons_succ]
              refine wpAnyH_take (i := 5) (oi := ⟨some 81, Op.extract (Operand.tmp 80) 1, _, _, _, _⟩) (v := ?v11) rfl (by kernel_rfl) (by kernel_rfl) (by kernel_rfl) (fun _ _ _ h => h) (Or.inl ⟨by rfl, ?hy11⟩) (by assumption) ?rest11
              case hy11 => ((intro w0 hSw; go_simp); try (with_reducible rfl))
              try simp only [Act.put, List.setIfInBounds_toArray, List.set_cons_zero, List.set_cons_succ]
              refine wpAnyH_ready (rs := [2]) (by kernel_rfl) (by simp) ?_
              refine AllReadyH.cons (o := ⟨some 78, Op.lookup 63 (Operand.tmp 76) (Operand.tmp 77) false, _, _, _, _⟩) rfl (fun K hK => ?_) AllReadyH.nil
              go_simp
              refine hK.out _ _ ⟨hp60, hp61⟩ (fun hHeld => ?_)
              clear hK K
              try simp only [Act.put, List.setIfInBounds_toArray, List.set_cons_zero, List.set_cons_succ]
              refine wpAnyH_take (i := 3) (oi := ⟨some 79, Op.binOp BinOp.add 3 (Operand.tmp 78) (Operand.const (Value.int IntKind.i64 1)) 3, _, _, _, _⟩) (v := ?v12) rfl (by kernel_rfl) (by kernel_rfl) (by kernel_rfl) (fun _ _ _ h => h) (Or.inl ⟨by rfl, ?hy12⟩) (by assumption) ?rest12
              case hy12 => ((intro w0 hSw; go_simp); try (with_reducible rfl))
              try simp only [Act.put, List.setIfInBounds_toArray, List.set_cons_zero, List.set_cons_succ]
              refine wpAnyH_ready (rs := [6]) (by kernel_rfl) (by simp) ?_
              refine AllReadyH.cons (o := ⟨none, Op.entryStore 63 (Operand.tmp 76) (Operand.tmp 81) (Operand.tmp 79), _, _, _, _⟩) rfl (fun K hK => ?_) AllReadyH.nil
              go_simp
              refine hK.out _ _ ⟨hp70, hp71⟩ (fun hHeld => ?_)
              clear hK K
              try simp only [Act.put, List.setIfInBounds_toArray, List.set_cons_zero, List.set_cons_succ]
              refine wpAnyH_done (by kernel_rfl) ?_ _
              go_wp2_with fail
              have HFF : Hid (∀ w', w7.grownBy w' none → (((w'.cell? ⟨wr.heap.size, 0, none⟩ = some (.int .u8 n.k) ∧ w'.cell? ⟨wr.heap.size, 2, none⟩ = some (.int .i64 n.t)) ∧ (w'.cell? ⟨w4.heap.size, 0, none⟩ = some (.int .i64 n.t) ∧ w'.cell? ⟨w4.heap.size, 1, none⟩ = some (.int .i64 m))) ∧ (Instr.lookup 63 (.map (some w2.heap.size)) (.agg #[.int .i64 n.t, .int .i64 m]) false).run Tryd.prog w' = .ok (.int .i64 ((y + 1 : Nat) : Int)) w')) := Lib.hid fun w' h' => ⟨⟨⟨cell_at (range_grown HX7.out h' (by simp)) 0 _ rfl, cell_at (range_grown HX7.out h' (by simp)) 2 _ rfl⟩, ⟨h'.cell hp70 (by simp), h'.cell hp71 (by simp)⟩⟩, by
                have := lookup_q (HQ7.out.grown h') n.t m HWA.out HWB.out
                rw [this, HMK.out, HYN.out]⟩
              have HRM : Hid (∀ w', w7.grownBy w' none → Calls Tryd.prog 18 #[.pointer (some ⟨t, 0, none⟩), .int .i64 n.t, .int .i64 m] w' fun e w'' => e = .returned (.int .i64 ((r : Int) - ((y + 1 : Nat) : Int))) ∧ w'.grownBy w'' none) := Lib.hid fun w' h' => by
                have := nroom_any t p c r _ (ns ++ [n]) 0 w' (HO7.out.grown h').net n.t (net n.k)
                rw [HPFN.out, HYN.out, ← HMK.out] at this
                exact this
              obtain ⟨y9, hy9⟩ : ∃ y9 : Nat, y9 = y + 1 := ⟨_, rfl⟩
              rw [← hy9] at HFF HRM
              obtain ⟨d, hd9⟩ : ∃ d, d = (r : Int) - (y9 : Int) := ⟨_, rfl⟩
              rw [← hd9] at HRM
              have hwd : IntKind.i64.wrap ((r : Int) - (y9 : Int)) = d := (IntWalk.i64_in _ (by have := HYL.out; have := HR2.out; omega)).trans hd9.symm
              clear hd9 hy9
              go_region_held3 (fun w' => (((w'.cell? ⟨wr.heap.size, 0, none⟩ = some (.int .u8 n.k) ∧ w'.cell? ⟨wr.heap.size, 2, none⟩ = some (.int .i64 n.t)) ∧ (w'.cell? ⟨w4.heap.size, 0, none⟩ = some (.int .i64 n.t) ∧ w'.cell? ⟨w4.heap.size, 1, none⟩ = some (.int .i64 m))) ∧ (Instr.lookup 63 (.map (some w2.heap.size)) (.agg #[.int .i64 n.t, .int .i64 m]) false).run Tryd.prog w' = .ok (.int .i64 (y9 : Int)) w') ∧ w7.grownBy w' none) (first | exact ⟨HFF.out _ (grown_refl _ _), grown_refl _ _⟩ | exact ⟨HFF.out _ (grown_drew (grown_refl _ _)), grown_drew (grown_refl _ _)⟩ | assumption | exact keepF HFF (by assumption) (by assumption) | exact keepF HFF (by assumption) (grown_drew (grown_refl _ _))) (first
                | (go_at_call 29; ((refine (HNT.out _).mono ?_); rintro e w9 ⟨rfl, rfl⟩))
                | (go_at_call 18; ((refine (HRM.out _ (And.right (by assumption : _ ∧ w7.grownBy _ none))).mono ?_); rintro e w10 ⟨rfl, hg10⟩)))
              all_goals
                have HGE : Hid (w7.grownBy w10 none) := Lib.hid (And.right (by assumption : _ ∧ w7.grownBy w10 none))
                go_wp2_with fail
                go_roundw
                case rel => exact ⟨j + 1, _, _, by omega, by go_num, HO7.out.grown HGE.out, HQ7.out.grown HGE.out⟩
                case measure => simp [intOf]; omega
          · skip
            have HSD := Lib.hid (own_send_full HT.out HK.out HOE.out n hf (by rw [← hy]; exact hr))
            have HYN : Hid (many ns n.t (net n.k) = y) := Lib.hid hy.symm
            have HPFN := Lib.hid (room_of (r := r) (ns := ns) hf)
            have hyr : (!decide (r ≤ y)) = false := by simp; omega
            clear hf hfp hy
            go_wp2_with (first
              | ((with_reducible refine load_nt n _ wr.heap.size ?_ HXE.out ?_); (rfl))
              | (go_at_call 12; ((with_reducible refine HSD.out.mono ?_); rintro e w5 ⟨rfl, v5, ho5, ht5⟩; have HO5 := Lib.hid ho5; have HQ5 := Lib.hid (ht5.map HOE.out.net HQE.out); have HX5 := Lib.hid (ht5.range HXE.out HLE1.out HNE.out); have HP5 := Lib.hid ((ht5.block _ HLE2.out HNEP.out.1 HNEP.out.2.1 HNEP.out.2.2).trans HPE.out); have hlk5 := HLK.out _ HQ5.out; have hp0 := (cell_of_row _ _ 0 _ _ _ HP5.out).trans rfl; have hp1 := (cell_of_row _ _ 1 _ _ _ HP5.out).trans rfl; clear ho5 ht5)))
            go_wp2_with fail
            have HFF : Hid (∀ w', w5.grownBy w' none → (((w'.cell? ⟨wr.heap.size, 0, none⟩ = some (.int .u8 n.k) ∧ w'.cell? ⟨wr.heap.size, 2, none⟩ = some (.int .i64 n.t)) ∧ (w'.cell? ⟨w4.heap.size, 0, none⟩ = some (.int .i64 n.t) ∧ w'.cell? ⟨w4.heap.size, 1, none⟩ = some (.int .i64 m))) ∧ (Instr.lookup 63 (.map (some w2.heap.size)) (.agg #[.int .i64 n.t, .int .i64 m]) false).run Tryd.prog w' = .ok (.int .i64 ((y : Nat) : Int)) w')) := Lib.hid fun w' h' => ⟨⟨⟨cell_at (range_grown HX5.out h' (by simp)) 0 _ rfl, cell_at (range_grown HX5.out h' (by simp)) 2 _ rfl⟩, ⟨h'.cell hp0 (by simp), h'.cell hp1 (by simp)⟩⟩, by
              have := lookup_q (HQ5.out.grown h') n.t m HWA.out HWB.out
              rw [this, HMK.out, HYN.out]⟩
            have HRM : Hid (∀ w', w5.grownBy w' none → Calls Tryd.prog 18 #[.pointer (some ⟨t, 0, none⟩), .int .i64 n.t, .int .i64 m] w' fun e w'' => e = .returned (.int .i64 ((r : Int) - ((y : Nat) : Int))) ∧ w'.grownBy w'' none) := Lib.hid fun w' h' => by
              have := nroom_any t p c r _ ns 0 w' (HO5.out.grown h').net n.t (net n.k)
              rw [HPFN.out, HYN.out, ← HMK.out] at this
              exact this
            obtain ⟨y9, hy9⟩ : ∃ y9 : Nat, y9 = y := ⟨_, rfl⟩
            rw [← hy9] at HFF HRM
            obtain ⟨d, hd9⟩ : ∃ d, d = (r : Int) - (y9 : Int) := ⟨_, rfl⟩
            rw [← hd9] at HRM
            have hwd : IntKind.i64.wrap ((r : Int) - (y9 : Int)) = d := (IntWalk.i64_in _ (by have := HYL.out; have := HR2.out; omega)).trans hd9.symm
            clear hd9 hy9
            go_region_held3 (fun w' => (((w'.cell? ⟨wr.heap.size, 0, none⟩ = some (.int .u8 n.k) ∧ w'.cell? ⟨wr.heap.size, 2, none⟩ = some (.int .i64 n.t)) ∧ (w'.cell? ⟨w4.heap.size, 0, none⟩ = some (.int .i64 n.t) ∧ w'.cell? ⟨w4.heap.size, 1, none⟩ = some (.int .i64 m))) ∧ (Instr.lookup 63 (.map (some w2.heap.size)) (.agg #[.int .i64 n.t, .int .i64 m]) false).run Tryd.prog w' = .ok (.int .i64 (y9 : Int)) w') ∧ w5.grownBy w' none) (first | exact ⟨HFF.out _ (grown_refl _ _), grown_refl _ _⟩ | exact ⟨HFF.out _ (grown_drew (grown_refl _ _)), grown_drew (grown_refl _ _)⟩ | assumption | exact keepF HFF (by assumption) (by assumption) | exact keepF HFF (by assumption) (grown_drew (grown_refl _ _))) (first
              | (go_at_call 29; ((refine (HNT.out _).mono ?_); rintro e w9 ⟨rfl, rfl⟩))
              | (go_at_call 18; ((refine (HRM.out _ (And.right (by assumption : _ ∧ w5.grownBy _ none))).mono ?_); rintro e w10 ⟨rfl, hg10⟩)))
            all_goals
              have HGE : Hid (w5.grownBy w10 none) := Lib.hid (And.right (by assumption : _ ∧ w5.grownBy w10 none))
              go_wp2_with fail
              go_roundw
              case rel => exact ⟨j + 1, _, _, by omega, by go_num, HO5.out.grown HGE.out, HQ5.out.grown HGE.out⟩
              case measure => simp [intOf]; omega
        · skip
          rw [decide_eq_false hf]
          have HSD := Lib.hid (own_send_unfit HT.out HK.out HOE.out n hf)
          clear hf
          go_wp2_with (first
            | ((with_reducible refine load_nt n _ wr.heap.size ?_ HXE.out ?_); (rfl))
            | (go_at_call 12; ((with_reducible refine HSD.out.mono ?_); rintro e w5 ⟨rfl, v5, ho5, ht5⟩; have HO5 := Lib.hid ho5; have HQ5 := Lib.hid (ht5.map HOE.out.net HQE.out); clear ho5 ht5)))
          go_quiet (fail)
          go_wp2_with fail
          go_roundw
          case rel => exact ⟨j + 1, _, _, by omega, by go_num, HO5.out.grown (grown_drewN (grown_refl _ _) _), HQ5.out.grown (grown_drewN (grown_refl _ _) _)⟩
          case measure => simp [intOf]; omega
    · go_wp2_with ((go_at_call 11; ((with_reducible refine (HW.out _ (grown_trans HG0.out HO.out.old)).mono ?_); rintro e w9 ⟨rfl, hgw9⟩; have Gw9 := Lib.hid (grown_trans (grown_trans HG0.out HO.out.old) hgw9); clear hgw9)))
      go_ret
      exact ⟨rfl, Gw9.out⟩
theorem room_true (c : Cfg) (room : Int) (os : List Nt) (ad : Option Addr) (len cap : Nat) (w : World) (hT : Tab w) (hK : TabK w) (hlen : len = os.length) (hat : NotesAt w ad os) :
    Calls Tryd.prog 6 #[.agg c.cells, .int .i64 room, .slice ad len cap] w fun e w' => e = .returned (.bool true) ∧ w.grownBy w' none := by
  by_cases h : 100 < len
  · exact room_long c room ad len cap w hT hK h
  · by_cases hm : c.may ∧ 1 ≤ room ∧ room ≤ 1024
    · obtain ⟨hm, h1, h2⟩ := hm
      obtain ⟨r, rfl⟩ : ∃ r : Nat, room = (r : Int) := ⟨room.toNat, by omega⟩
      exact room_some c r os ad len cap w hT hK hlen hat (by omega) hm (by omega) (by omega)
    · exact room_no c room ad len cap w hT hK (by omega) hm
end Go.Proofs.YtoemkhmbeiindaaDoor.tt
