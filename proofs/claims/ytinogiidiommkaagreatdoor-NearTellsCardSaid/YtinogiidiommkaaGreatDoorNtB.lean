/-
  The loops of the law NearTells over what goes out, and over all lines. Conditions: the tables of bounds and of kinds lie in their variables as the program's text has them; that the script lies where the argument says.
-/
import Derived.Test.YtinogiidiommkaaGreatDoorNtA
namespace Go.Proofs.YtinogiidiommkaaGreatDoor.nl
open Go Go.ChangeShapes Go.WideShapes Go.ChangeAt Go.RowKit Go.Shelf
open Go.Proofs.YtinogiidiommkaaGreatDoor.nr
open Go.Proofs.YtinogiidiommkaaGreatDoor.tt (OpX opc OpsAt cfg_at CfgAt Cfg Nt na nt zn bare zd fits row tyne lt_of U Tab TabK grown_refl grown_trans grown_alloc grown_setCells grown_drew grown_drewN yes Sl Next flat)
open Go.Proofs.YtinogiidiommkaaGreatDoor.kk (Ln St zl la ln cfind cdrop cuse cgoes cwrite cturn cput setAt setOf live fF Shp Cac Kept)
open Go.Proofs.YtinogiidiommkaaGreatDoor.bk (Bk rem kills puts putE fd fl Nd Rg dead fresh BkAt)
open Go.Proofs.YtinogiidiommkaaGreatDoor.mrk (Ms rdS wrS meets addE Dom MkAt)
open Go.Proofs.YtinogiidiommkaaGreatDoor.de (Dl sT gE rF aD LAt)
open Go.Proofs.YtinogiidiommkaaGreatDoor.oo (ref)
open Go.Proofs.YtinogiidiommkaaGreatDoor.gl
open Go.Proofs.YtinogiidiommkaaGreatDoor.tt (MapAt mput ik)
set_option linter.unusedVariables false
set_option linter.unusedSimpArgs false
set_option maxRecDepth 1000000
set_option maxHeartbeats 16000000

theorem tells_lines (wb W : World) (L : LL) (P : Pm) (k : Nr) (F : Int → List Int) (CB M len j cap m0 : Nat) (ad : Option Addr) (K : Act → World → Prop) (Q1 Q0 : Exit → Act → World → Prop) (hP : Pok P) (hcf : ∀ w', wb.grownBy w' none → CfgAt w' CB P.c) (hO : Own wb W L P k) (hI : Inv P k) (hH : Has W M L F) (hT : Tel P k F) (hlt : j < len) (h300 : len ≤ 300) (hm : len - (j + 1) < m0)
    (hK : ∀ a w, Code.wp Tryz.prog tellsEnd (Exit.then (fun a' w' => TI wb L P len cap ad CB M a' w' ∧ Mt len a' < m0) Q0) a w → K a w) (a : Act) (hs : a.tmps.size = 192) (hd : a.defers = []) (h1 : a.tmps.getD 1 undef = .int .i64 P.core) (h3 : a.tmps.getD 3 undef = .pointer (some ⟨CB, 0, none⟩)) (h7 : a.tmps.getD 7 undef = .pointer (some ⟨L.q, 0, none⟩)) (h9 : a.tmps.getD 9 undef = .map (some M)) (h41 : a.tmps.getD 41 undef = .slice ad len cap) (h42 : a.tmps.getD 42 undef = .int .i64 (len : Int)) (h43 : a.tmps.getD 43 undef = .int .i64 (j : Int)) :
    Code.wp Tryz.prog tellsR35 (Exit.inBlock 1 (Exit.then K Q1)) a W := by
  obtain ⟨u, rfl, hu⟩ := lit192_of hs hd
  rw [hu] at h1 h3 h7 h9 h41 h42 h43
  rw [h1, h3, h7, h9, h41, h42, h43]
  clear hs hd hu h1 h3 h7 h9 h41 h42 h43
  have HO := Lib.hid hO
  have HI := Lib.hid hI
  have HH := Lib.hid hH
  have HT := Lib.hid hT
  have HP := Lib.hid hP
  have HK := Lib.hid hK
  have HM := Lib.hid hm
  obtain ⟨c0, c1, c2, c3, c4, c5, c6, c7⟩ := hcf W hO.old
  have HTB : Hid (Tb W) := Lib.hid (by obtain ⟨v, bs, hl, _⟩ := hO.ex; exact hl.tb)
  have HDT := Lib.hid (tt.data_yes P.c W HTB.out.b hP.may)
  rw [hP.data] at HDT
  have hN := hP.small
  obtain ⟨n, hn⟩ : ∃ n, n = P.N := ⟨_, rfl⟩
  rw [← hn] at HDT hN
  clear hO hI hH hT hP hK hm hcf hn
  unfold Cfg.cells at HDT
  conv => arg 2; whnf
  go_wp2_with (go_at_call 41; ((with_reducible refine HDT.out.mono ?_); rintro e w1 ⟨rfl, hg1⟩; have O1 := Lib.hid (HO.out.grown hg1); have H1 := Lib.hid (HH.out.grown hg1); clear hg1))
  clear c0 c1 c2 c3 c4 c5 c6 c7
  go_loopw [169] (fun i wr => ∃ t : Nat, t ≤ n ∧ i = .int .i64 (t : Int) ∧ Own wb wr L P k ∧ Has wr M L F) (fun i _ => n - (vi i).toNat)
  case atStart => exact ⟨0, Nat.zero_le _, rfl, O1.out, H1.out⟩
  case round =>
    clear O1 H1 HO HH HTB HDT
    obtain ⟨t, ht, rfl, ho, hh⟩ := hrel
    have HO := Lib.hid ho
    have HH := Lib.hid hh
    clear ho hh
    by_cases htl : t < n
    · have HLI := Lib.hid (own_line HO.out (t : Int))
      have HAP := Lib.hid (HI.out.ap (t : Int))
      obtain ⟨l0, hl0⟩ : ∃ z, (cfind P.c k.ss (t : Int)).1 = z := ⟨_, rfl⟩
      obtain ⟨is0, his0⟩ : ∃ z, (cfind P.c k.ss (t : Int)).2 = z := ⟨_, rfl⟩
      have HIS : Hid (is0 = (line P k (t : Int)).isSome) := Lib.hid (his0.symm.trans (nr.cf2 _))
      rw [hl0, his0] at HLI
      have HBA : Hid (∀ w', Own wb w' L P k → _) := Lib.hid fun w' o => own_back o (t : Int)
      have hfd : (fd (bk.look k.bs (t : Int))).length = 16 := by
        cases hbl : bk.look k.bs (t : Int) with
        | none => rfl
        | some x => exact x.hd
      obtain ⟨dd, hdd⟩ : ∃ z, fd (bk.look k.bs (t : Int)) = z := ⟨_, rfl⟩
      obtain ⟨lv, hlv⟩ : ∃ z, fl (bk.look k.bs (t : Int)) = z := ⟨_, rfl⟩
      obtain ⟨bs0, hbs0⟩ : ∃ z, (bk.look k.bs (t : Int)).isSome = z := ⟨_, rfl⟩
      have HAP2 : Hid (is0 = true → bs0 = false) := Lib.hid fun h => by
        rw [← hbs0, HAP.out (HIS.out.symm.trans h)]; rfl
      rw [hdd, hlv, hbs0] at HBA
      rw [hdd] at hfd
      clear hl0 his0 hdd hlv hbs0 HAP HIS
      cases is0
      · go_wp2_with (first
          | (go_at_call 21; ((with_reducible refine HLI.out.mono ?_); rintro e w4 ⟨rfl, hg4⟩; have O4 := Lib.hid (HO.out.grown (grown_alloc hg4 (.cells (la l0) 50))); have H4 := Lib.hid (HH.out.grown (grown_alloc hg4 (.cells (la l0) 50))); clear hg4))
          | ((with_reducible refine kk.store_new' l0 22 176 ?_ ?_ ?_); ((rfl)); ((rfl)))
          | (go_at_call 23; ((with_reducible refine (HBA.out _ O4.out).mono ?_); rintro e w5 ⟨rfl, hw, hf⟩; have O5 := Lib.hid (hw.grown (grown_alloc (grown_refl _ none) (.cells (row dd) 35))); have H5 := Lib.hid ((H4.out.far hf).grown (grown_alloc (grown_refl _ none) (.cells (row dd) 35))); clear hw hf))
          | ((with_reducible refine store_bZ dd hfd 24 182 ?_ ?_ ?_); ((rfl)); ((rfl))))
        go_roundw
        case rel => exact ⟨t + 1, by omega, by go_num, O5.out, H5.out⟩
        case measure => simp [vi]; omega
      · obtain rfl := HAP2.out rfl
        go_wp2_with (first
          | (go_at_call 21; ((with_reducible refine HLI.out.mono ?_); rintro e w4 ⟨rfl, hg4⟩; have O4 := Lib.hid (HO.out.grown (grown_alloc hg4 (.cells (la l0) 50))); have H4 := Lib.hid (HH.out.grown (grown_alloc hg4 (.cells (la l0) 50))); clear hg4))
          | ((with_reducible refine kk.store_new' l0 22 176 ?_ ?_ ?_); ((rfl)); ((rfl)))
          | (go_at_call 23; ((with_reducible refine (HBA.out _ O4.out).mono ?_); rintro e w5 ⟨rfl, hw, hf⟩; have O5 := Lib.hid (hw.grown (grown_alloc (grown_refl _ none) (.cells (row dd) 35))); have H5 := Lib.hid ((H4.out.far hf).grown (grown_alloc (grown_refl _ none) (.cells (row dd) 35))); clear hw hf))
          | ((with_reducible refine store_bZ dd hfd 24 182 ?_ ?_ ?_); ((rfl)); ((rfl))))
        go_roundw
        case rel => exact ⟨t + 1, by omega, by go_num, O5.out, H5.out⟩
        case measure => simp [vi]; omega
    · obtain rfl : t = n := by omega
      go_wp2_with fail
      refine HK.out _ _ ?_
      conv => arg 2; whnf
      go_wp2_with fail
      refine ⟨⟨rfl, rfl, rfl, rfl, rfl, rfl, rfl, rfl, j + 1, k, F, by omega, by show Value.int .i64 ((j : Int) + 1) = Value.int .i64 ((j + 1 : Nat) : Int); simp, HO.out, HI.out, HH.out, HT.out⟩, ?_⟩
      show len - ((j : Int) + 1).toNat < m0
      have := HM.out
      omega
/-- What may go out while F is what the core had last. -/
def Said (P : Pm) (F : Int → List Int) (l : List Nt) : Prop := ∀ x ∈ l, x.f = P.core ∧ x.t = -1 ∧ (x.h = true → x.d = F x.b)
theorem sub_range {w : World} {g o : Nat} {n : Nt} (h : w.rangeAt g o (nt n)) : w.rangeAt g (o + 8) (n.d.map U) := fun j v hv => by
  have := h (8 + j) v (by show (nt n)[8 + j]? = some v; rw [show 8 + j = j + 8 by omega]; exact hv)
  rwa [← Nat.add_assoc] at this
theorem tells_tail (wb W : World) (L : LL) (P : Pm) (k : Nr) (F : Int → List Int) (CB M len j cap m0 : Nat) (ad : Option Addr) (K : Act → World → Prop) (Q1 Q0 : Exit → Act → World → Prop) (l : List Nt) (ad4 : Option Addr) (cap4 : Nat) (hP : Pok P) (hcf : ∀ w', wb.grownBy w' none → CfgAt w' CB P.c) (hO : Own wb W L P k) (hI : Inv P k) (hH : Has W M L F) (hT : Tel P k F) (hlt : j < len) (h300 : len ≤ 300) (hm : len - (j + 1) < m0) (hG : Said P F l) (hS : SlN W (.slice ad4 l.length cap4) l) (hl : l.length ≤ 65536)
    (hK : ∀ a w, Code.wp Tryz.prog tellsEnd (Exit.then (fun a' w' => TI wb L P len cap ad CB M a' w' ∧ Mt len a' < m0) Q0) a w → K a w) (Kc : Act → World → Prop) (hKc : ∀ a w, Code.wp Tryz.prog tellsR35 (Exit.inBlock 1 (Exit.then K Q1)) a w → Kc a w) (Kb : Act → World → Prop) (hKb : ∀ a w, Code.wp Tryz.prog tellsOut (Exit.then Kc (Exit.inBlock 1 (Exit.then K Q1))) a w → Kb a w) (a : Act) (hs : a.tmps.size = 192) (hd : a.defers = []) (h1 : a.tmps.getD 1 undef = .int .i64 P.core) (h3 : a.tmps.getD 3 undef = .pointer (some ⟨CB, 0, none⟩)) (h7 : a.tmps.getD 7 undef = .pointer (some ⟨L.q, 0, none⟩)) (h9 : a.tmps.getD 9 undef = .map (some M)) (h41 : a.tmps.getD 41 undef = .slice ad len cap) (h42 : a.tmps.getD 42 undef = .int .i64 (len : Int)) (h43 : a.tmps.getD 43 undef = .int .i64 (j : Int)) (h12 : a.tmps.getD 12 undef = .slice ad4 l.length cap4) :
    Code.wp Tryz.prog tellsR29 (Exit.then Kb (Exit.then Kc (Exit.inBlock 1 (Exit.then K Q1)))) a W := by
  obtain ⟨u, rfl, hu⟩ := lit192_of hs hd
  rw [hu] at h1 h3 h7 h9 h41 h42 h43 h12
  rw [h1, h3, h7, h9, h41, h42, h43, h12]
  clear hs hd hu h1 h3 h7 h9 h41 h42 h43 h12
  have HO := Lib.hid hO
  have HI := Lib.hid hI
  have HH := Lib.hid hH
  have HT := Lib.hid hT
  have HP := Lib.hid hP
  have HK := Lib.hid hK
  have HKC := Lib.hid hKc
  have HKB := Lib.hid hKb
  have HM := Lib.hid hm
  have HCF := Lib.hid hcf
  have HG := Lib.hid hG
  have HS := Lib.hid hS
  obtain ⟨n, hn⟩ : ∃ n, n = l.length := ⟨_, rfl⟩
  rw [← hn] at hl ⊢
  have HN := Lib.hid hn
  clear hO hI hH hT hP hK hKc hKb hm hcf hG hS hn
  conv => arg 2; whnf
  go_wp2_with fail
  refine HKB.out _ _ ?_
  conv => arg 2; whnf
  go_wp2_with fail
  go_loopw [140] (fun i wr => ∃ t : Nat, t ≤ n ∧ i = .int .i64 (t : Int) ∧ Own wb wr L P k ∧ Has wr M L F ∧ SlN wr (.slice ad4 l.length cap4) l) (fun i _ => n - (vi i).toNat)
  case atStart => exact ⟨0, Nat.zero_le _, rfl, HO.out, HH.out, HS.out⟩
  case round =>
    clear HO HH HS
    obtain ⟨t, ht, rfl, ho, hh, hs⟩ := hrel
    have HO := Lib.hid ho
    have HH := Lib.hid hh
    have HS := Lib.hid hs
    clear ho hh hs
    by_cases htl : t < n
    · obtain ⟨x, hx⟩ : ∃ x, l[t]? = some x := ⟨_, List.getElem?_eq_getElem (by have := HN.out; omega)⟩
      obtain ⟨hxf, hxt, hxd⟩ := HG.out x (List.mem_of_getElem? hx)
      obtain ⟨g4, o4, rfl, _, hr⟩ := nsl_at HS.out t x hx
      have HZ : Hid ((wr.alloc (.cells (na zn) 37)).heap[wr.heap.size]? = some (.cells (na zn) 37 (0, 0))) := Lib.hid (heap_alloc_new _ _)
      obtain ⟨W1, hW1⟩ : ∃ z, (wr.alloc (.cells (na zn) 37)).setRow wr.heap.size (na x) = z := ⟨_, rfl⟩
      have hgr : wr.grownBy W1 none := hW1 ▸ tt.grown_setRow (grown_alloc (grown_refl _ _) _) _ (Nat.le_refl _) _
      have hb1 : W1.heap[wr.heap.size]? = some (.cells (na x) 37 (0, 0)) := hW1 ▸ setRow_heap _ _ _ _ _ _ (heap_alloc_new _ _)
      have hrx := tt.range_of hb1
      have c1 := tt.cell_at hrx 1 _ rfl
      have c2 := tt.cell_at hrx 2 _ rfl
      have c3 := tt.cell_at hrx 3 _ rfl
      have c6 := tt.cell_at hrx 6 _ rfl
      rw [hxf] at c1
      rw [hxt] at c2
      have hrd := sub_range hrx
      rw [Nat.zero_add] at hrd
      rw [zn_na] at HZ hW1
      have O1 := Lib.hid (HO.out.grown hgr)
      have H1 := Lib.hid (HH.out.grown hgr)
      have S1 := Lib.hid (HS.out.grown hgr)
      have HW1 := Lib.hid hW1
      obtain ⟨tB, nn, HTB, hagg, hsize, hld, _, _⟩ := tt.named29
      have hlB := hld wr.heap.size 8 x.d x.hd W1 hrd
      clear hgr hb1 hrx hW1 hx hxf hxt hrd hld
      go_upto_region 32 with (first
        | ((with_reducible refine load_o x 142 g4 (o4 + t * 24) ?_ hr ?_); ((rfl)))
        | ((with_reducible refine tt.store_any x (na zn) 20 143 wr.heap.size ?_ ?_ ?_ ?_ ?_); ((rfl)); ((rfl)); ((exact HZ.out)); ((rfl))))
      rw [HW1.out]
      clear hr HZ
      cases hxh : x.h
      · rw [hxh] at c6
        clear hxd hxh hlB hagg hsize
        go_wp2_with fail
        go_roundw
        case rel => exact ⟨t + 1, by omega, by go_num, O1.out, H1.out, S1.out⟩
        case measure => simp [vi]; omega
      · rw [hxh] at c6
        have hxd := hxd hxh
        rw [hxd] at hlB
        have hlk := H1.out.look x.b
        have hnb := neB (F x.b) (H1.out.ln _)
        rw [HTB.out.1]
        clear hxd hxh
        go_wp2_with fail
        go_roundw
        case rel => exact ⟨t + 1, by omega, by go_num, O1.out, H1.out, S1.out⟩
        case measure => simp [vi]; omega
    · obtain rfl : t = n := by omega
      go_wp2_with fail
      refine HKC.out _ _ ?_
      refine tells_lines wb _ L P k F CB M len j cap m0 ad K Q1 Q0 HP.out HCF.out HO.out HI.out HH.out HT.out hlt h300 HM.out HK.out _ ?_ ?_ ?_ ?_ ?_ ?_ ?_ ?_ ?_
      all_goals rfl
end Go.Proofs.YtinogiidiommkaaGreatDoor.nl
