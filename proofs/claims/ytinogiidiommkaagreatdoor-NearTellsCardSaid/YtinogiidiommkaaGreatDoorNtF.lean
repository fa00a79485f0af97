/-
  The law NearTells: each round, the loop, the walk. Conditions: the tables of bounds and of kinds lie in their variables as the program's text has them; that the script lies where the argument says.
-/
import Derived.Test.YtinogiidiommkaaGreatDoorNtD
namespace Go.Proofs.YtinogiidiommkaaGreatDoor.nl
open Go Go.ChangeShapes Go.WideShapes Go.ChangeAt Go.RowKit Go.Shelf
open Go.Proofs.YtinogiidiommkaaGreatDoor.nr
open Go.Proofs.YtinogiidiommkaaGreatDoor.tt (OpX opc OpsAt cfg_at CfgAt Cfg Nt na nt zn bare zd fits row tyne lt_of U Tab TabK grown_refl grown_trans grown_alloc grown_setCells grown_drew grown_drewN yes Sl Next flat)
open Go.Proofs.YtinogiidiommkaaGreatDoor.kk (Ln St zl la ln cfind cdrop cuse cgoes cwrite cturn cput setAt setOf live fF Shp Cac Kept)
open Go.Proofs.YtinogiidiommkaaGreatDoor.bk (Bk rem kills puts putE fd fl Nd Rg dead fresh BkAt)
open Go.Proofs.YtinogiidiommkaaGreatDoor.mrk (Ms rdS wrS meets addE Dom MkAt)
open Go.Proofs.YtinogiidiommkaaGreatDoor.de (Dl sT gE rF aD LAt)
open Go.Proofs.YtinogiidiommkaaGreatDoor.oo (ref)
open Go.Proofs.YtinogiidiommkaaGreatDoor.gl
open Go.Proofs.YtinogiidiommkaaGreatDoor.tt (MapAt mput ik)
set_option linter.unusedVariables false
set_option linter.unusedSimpArgs false
set_option maxRecDepth 1000000
set_option maxHeartbeats 16000000

/-- What stands behind the loop. -/
def TX (wb : World) (a : Act) (w : World) : Prop := a.tmps.size = 192 ∧ a.defers = [] ∧ wb.grownBy w none
theorem tells_end (P : Pm) (L : LL) (k : Nr) (CB M j len cap : Nat) (ad : Option Addr) (wb wr : World) (u : Nat → Value) (Q0 : Exit → Act → World → Prop) (hO : Own wb wr L P k) (hj : j ≤ len) (hlt : ¬ j < len) (hexit : ∀ a' w', TX wb a' w' → Q0 (.exit 0) a' w') :
    Code.wp Tryz.prog tellsBody (Exit.then (fun a' w' => TI wb L P len cap ad CB M a' w' ∧ Mt len a' < Mt len ⟨#[u 0, .int .i64 P.core, u 2, .pointer (some ⟨CB, 0, none⟩), u 4, u 5, u 6, .pointer (some ⟨L.q, 0, none⟩), u 8, .map (some M), u 10, u 11, u 12, u 13, u 14, u 15, u 16, u 17, u 18, u 19, u 20, u 21, u 22, u 23, u 24, u 25, u 26, u 27, u 28, u 29, u 30, u 31, u 32, u 33, u 34, u 35, u 36, u 37, u 38, u 39, u 40, .slice ad len cap, .int .i64 (len : Int), .int .i64 (j : Int), u 44, u 45, u 46, u 47, u 48, u 49, u 50, u 51, u 52, u 53, u 54, u 55, u 56, u 57, u 58, u 59, u 60, u 61, u 62, u 63, u 64, u 65, u 66, u 67, u 68, u 69, u 70, u 71, u 72, u 73, u 74, u 75, u 76, u 77, u 78, u 79, u 80, u 81, u 82, u 83, u 84, u 85, u 86, u 87, u 88, u 89, u 90, u 91, u 92, u 93, u 94, u 95, u 96, u 97, u 98, u 99, u 100, u 101, u 102, u 103, u 104, u 105, u 106, u 107, u 108, u 109, u 110, u 111, u 112, u 113, u 114, u 115, u 116, u 117, u 118, u 119, u 120, u 121, u 122, u 123, u 124, u 125, u 126, u 127, u 128, u 129, u 130, u 131, u 132, u 133, u 134, u 135, u 136, u 137, u 138, u 139, u 140, u 141, u 142, u 143, u 144, u 145, u 146, u 147, u 148, u 149, u 150, u 151, u 152, u 153, u 154, u 155, u 156, u 157, u 158, u 159, u 160, u 161, u 162, u 163, u 164, u 165, u 166, u 167, u 168, u 169, u 170, u 171, u 172, u 173, u 174, u 175, u 176, u 177, u 178, u 179, u 180, u 181, u 182, u 183, u 184, u 185, u 186, u 187, u 188, u 189, u 190, u 191], []⟩) Q0) ⟨#[u 0, .int .i64 P.core, u 2, .pointer (some ⟨CB, 0, none⟩), u 4, u 5, u 6, .pointer (some ⟨L.q, 0, none⟩), u 8, .map (some M), u 10, u 11, u 12, u 13, u 14, u 15, u 16, u 17, u 18, u 19, u 20, u 21, u 22, u 23, u 24, u 25, u 26, u 27, u 28, u 29, u 30, u 31, u 32, u 33, u 34, u 35, u 36, u 37, u 38, u 39, u 40, .slice ad len cap, .int .i64 (len : Int), .int .i64 (j : Int), u 44, u 45, u 46, u 47, u 48, u 49, u 50, u 51, u 52, u 53, u 54, u 55, u 56, u 57, u 58, u 59, u 60, u 61, u 62, u 63, u 64, u 65, u 66, u 67, u 68, u 69, u 70, u 71, u 72, u 73, u 74, u 75, u 76, u 77, u 78, u 79, u 80, u 81, u 82, u 83, u 84, u 85, u 86, u 87, u 88, u 89, u 90, u 91, u 92, u 93, u 94, u 95, u 96, u 97, u 98, u 99, u 100, u 101, u 102, u 103, u 104, u 105, u 106, u 107, u 108, u 109, u 110, u 111, u 112, u 113, u 114, u 115, u 116, u 117, u 118, u 119, u 120, u 121, u 122, u 123, u 124, u 125, u 126, u 127, u 128, u 129, u 130, u 131, u 132, u 133, u 134, u 135, u 136, u 137, u 138, u 139, u 140, u 141, u 142, u 143, u 144, u 145, u 146, u 147, u 148, u 149, u 150, u 151, u 152, u 153, u 154, u 155, u 156, u 157, u 158, u 159, u 160, u 161, u 162, u 163, u 164, u 165, u 166, u 167, u 168, u 169, u 170, u 171, u 172, u 173, u 174, u 175, u 176, u 177, u 178, u 179, u 180, u 181, u 182, u 183, u 184, u 185, u 186, u 187, u 188, u 189, u 190, u 191], []⟩ wr := by
  have HX : Hid (∀ a' w', TX wb a' w' → Q0 (.exit 0) a' w') := Lib.hid hexit
  have HO := Lib.hid hO
  have hd : decide ((j : Int) < (len : Int)) = false := by simp; omega
  clear hexit hO
  conv => arg 2; whnf
  go_wp2_with fail
  refine HX.out _ _ ⟨rfl, rfl, HO.out.old⟩
theorem tells_round (P : Pm) (hP : Pok P) (L : LL) (os : List OpX) (len cap : Nat) (ad : Option Addr) (CB M : Nat) (wb : World) (hcf : ∀ w', wb.grownBy w' none → CfgAt w' CB P.c) (hM0 : wb.heap.size ≤ M) (hlen : len = os.length) (h300 : len ≤ 300) (hat : ∀ w', wb.grownBy w' none → OpsAt w' ad os) (Q0 : Exit → Act → World → Prop) (hexit : ∀ a' w', TX wb a' w' → Q0 (.exit 0) a' w') (a : Act) (wr : World) (hA : TI wb L P len cap ad CB M a wr) :
    Code.wp Tryz.prog tellsBody (Exit.then (fun a' w' => TI wb L P len cap ad CB M a' w' ∧ Mt len a' < Mt len a) Q0) a wr := by
  obtain ⟨hs, hd, h1, h3, h7, h9, h41, h42, j, k, F, hj, h43, hO, hI, hH, hTl⟩ := hA
  obtain ⟨u, rfl, hu⟩ := lit192_of hs hd
  rw [hu] at h1 h3 h7 h9 h41 h42 h43
  rw [h1, h3, h7, h9, h41, h42, h43]
  clear hs hd hu h1 h3 h7 h9 h41 h42 h43
  by_cases hlt : j < len
  · obtain ⟨q, hq⟩ : ∃ q, os[j]? = some q := ⟨_, List.getElem?_eq_getElem (by omega)⟩
    obtain ⟨gb, go, rfl, hr, hx, hst⟩ := hat _ hO.old j q hq
    by_cases hk0 : q.kd = 0
    · exact tells_0 P L k F CB M j len cap gb go q wb wr u Q0 hP hcf hM0 hO hI hH hTl hlt h300 hr hx hst hk0
    · by_cases hk2 : q.kd = 2
      · exact tells_2 P L k F CB M j len cap gb go q wb wr u Q0 hP hcf hM0 hO hI hH hTl hlt h300 hr hx hst hk2 hk0
      · by_cases hk3 : q.kd = 3
        · exact tells_3 P L k F CB M j len cap gb go q wb wr u Q0 hP hcf hM0 hO hI hH hTl hlt h300 hr hx hst hk3 hk0 hk2
        · by_cases hk1 : q.kd = 1
          · exact tells_1 P L k F CB M j len cap gb go q wb wr u Q0 hP hcf hM0 hO hI hH hTl hlt h300 hr hx hst hk1 hk0 hk2 hk3
          · exact tells_x P L k F CB M j len cap gb go q wb wr u Q0 hP hcf hM0 hO hI hH hTl hlt h300 hr hx hst hk0 hk2 hk3 hk1
  · exact tells_end P L k CB M j len cap ad wb wr u Q0 hO hj hlt hexit
theorem tells_long (c : Cfg) (core : Int) (ad : Option Addr) (len cap : Nat) (w : World) (hT : Tb w) (h : 300 < len) : Calls Tryz.prog 6 #[.agg c.cells, .int .i64 core, .slice ad len cap] w fun e w' => e = .returned (.bool true) ∧ w.grownBy w' none := by
  have hd : decide ((300 : Int) < (len : Int)) = true := by simp; omega
  have hg0 : w.grownBy (w.alloc (.cells c.cells 27)) none := grown_alloc (grown_refl _ _) _
  have HW := Lib.hid (works_any _ (hT.grown hg0))
  have HG0 := Lib.hid hg0
  clear hT h hg0
  unfold Cfg.cells at *
  go_enter Tryz.func6, Tryz.ntmps6
  go_wp2_with (go_at_call 10; ((with_reducible refine HW.out.mono ?_); rintro e w3 ⟨rfl, hg3⟩; have HG3 := Lib.hid hg3; clear hg3))
  go_ret
  exact ⟨rfl, grown_trans HG0.out HG3.out⟩
theorem tells_no (c : Cfg) (core : Int) (ad : Option Addr) (len cap : Nat) (w : World) (hT : Tb w) (h : len ≤ 300) (hm : ¬ (c.may ∧ 0 ≤ core ∧ core < c.co)) : Calls Tryz.prog 6 #[.agg c.cells, .int .i64 core, .slice ad len cap] w fun e w' => e = .returned (.bool true) ∧ w.grownBy w' none := by
  have hd : decide ((300 : Int) < (len : Int)) = false := by simp; omega
  have hg0 : w.grownBy (w.alloc (.cells c.cells 27)) none := grown_alloc (grown_refl _ _) _
  obtain ⟨ec, hec, HN0⟩ : ∃ ec : Int, (ec != 0) = true ∧ Calls Tryz.prog 8 #[.agg c.cells, .int .i64 core] (w.alloc (.cells c.cells 27)) fun e w' => e = .returned (.tuple #[.pointer none, .int .i64 ec]) ∧ (w.alloc (.cells c.cells 27)).grownBy w' none := by
    by_cases hc : c.may
    · exact ⟨5, rfl, new_range c core _ (hT.grown hg0) hc (by by_cases h0 : core < 0; exact .inl h0; exact .inr (by have : ¬ (0 ≤ core ∧ core < c.co) := fun e => hm ⟨hc, e⟩; omega))⟩
    · exact ⟨2, rfl, new_arg c core _ (hT.grown hg0) hc⟩
  have HN := Lib.hid HN0
  have HW : Hid (∀ w', w.grownBy w' none → _) := Lib.hid (fun w' h => works_any w' (hT.grown h))
  obtain ⟨c0, c1, c2, c3, c4, c5, c6, c7⟩ := cfg_at w c
  have HG0 := Lib.hid hg0
  clear hT h hm hg0 HN0
  unfold Cfg.cells at HN HG0 c0 c1 c2 c3 c4 c5 c6 c7 ⊢
  go_enter Tryz.func6, Tryz.ntmps6
  go_wp2_with (first
    | (go_at_call 8; ((with_reducible refine HN.out.mono ?_); rintro e w2 ⟨rfl, hg2⟩; have HG2 := Lib.hid (grown_trans HG0.out hg2); clear hg2))
    | (go_at_call 10; ((with_reducible refine (HW.out _ HG2.out).mono ?_); rintro e w3 ⟨rfl, hg3⟩; have HG3 := Lib.hid (grown_trans HG2.out hg3); clear hg3)))
  go_ret
  exact ⟨rfl, HG3.out⟩
theorem tells_some (P : Pm) (hP : Pok P) (os : List OpX) (ad : Option Addr) (len cap : Nat) (w : World) (hT : Tb w) (hlen : len = os.length) (hat : OpsAt w ad os) (h : len ≤ 300) : Calls Tryz.prog 6 #[.agg P.c.cells, .int .i64 P.core, .slice ad len cap] w fun e w' => e = .returned (.bool true) ∧ w.grownBy w' none := by
  have hd : decide ((300 : Int) < (len : Int)) = false := by simp; omega
  have hg0 : w.grownBy (w.alloc (.cells P.c.cells 27)) none := grown_alloc (grown_refl _ _) _
  have HN := Lib.hid (own_new P hP _ (hT.grown hg0))
  have HW : Hid (∀ w', w.grownBy w' none → _) := Lib.hid (fun w' h => works_any w' (hT.grown h))
  obtain ⟨c0, c1, c2, c3, c4, c5, c6, c7⟩ := cfg_at w P.c
  have HG0 := Lib.hid hg0
  have HCFG := Lib.hid (cfg_at w P.c)
  have hmm := @run_makeMap Tryz.prog
  have HLEN := Lib.hid hlen
  have H300 := Lib.hid h
  have HP := Lib.hid hP
  have HAT := Lib.hid (fun w' (h : w.grownBy w' none) => hat.grown h)
  have HZO : Hid (opa opz = _) := Lib.hid opz_na
  have HNS := Lib.hid (Inv.newS hP)
  clear hT hP hg0 hlen hat h
  unfold Cfg.cells at HN HG0 HCFG c0 c1 c2 c3 c4 c5 c6 c7 ⊢
  go_enter Tryz.func6, Tryz.ntmps6
  go_wp2_with (go_at_call 8; ((with_reducible refine HN.out.mono ?_); rintro e w2 ⟨L, rfl, ho2⟩; have H2 := Lib.hid ho2; clear ho2 c0 c1 c2 c3 c4 c5 c6 c7))
  clear HN
  obtain ⟨wb, hwb⟩ : ∃ wb, w.alloc (.cells #[.int .i64 P.c.co, .int .i64 P.c.se, .int .i64 P.c.wa, .int .i64 P.c.bl, .int .i64 P.c.lo, .int .i64 P.c.ba, .int .i64 P.c.ne, .int .i64 P.c.tr] 27) = wb := ⟨_, rfl⟩
  rw [hwb] at H2 HG0 HCFG
  have HAT := Lib.hid fun (w' : World) (h : wb.grownBy w' none) => HAT.out w' (grown_trans HG0.out h)
  have HW := Lib.hid fun (w' : World) (h : wb.grownBy w' none) => HW.out w' (grown_trans HG0.out h)
  have HFIN := Lib.hid fun (w' : World) (h : wb.grownBy w' none) => grown_trans HG0.out h
  clear hwb HG0
  clear hmm
  have HMB : Hid (w2.heap.size ≠ L.mb) := Lib.hid (by
    obtain ⟨v, bs, hl, _⟩ := H2.out.ex
    have : L.mb < w2.heap.size := hl.lt (.inr (.inr (.inr (.inl (.inr rfl)))))
    omega)
  have hg3 : w2.grownBy (w2.alloc (.map #[] 0)) none := grown_alloc (grown_refl _ _) _
  refine wp_loop (TI wb L P len cap ad w.heap.size w2.heap.size) (fun a _ => Mt len a) ⟨rfl, rfl, rfl, rfl, rfl, rfl, rfl, rfl, 0, _, fun _ => zd, Nat.zero_le _, rfl, H2.out.grown hg3, HNS.out, ⟨⟨_, tt.MapAt.new w2, fun _ => rfl⟩, fun _ => rfl, HMB.out⟩, Tel.newS P _⟩ (fun a w' hA => tells_round P HP.out L os len cap ad w.heap.size w2.heap.size wb (fun w' h => HCFG.out.grown h) H2.out.old.size HLEN.out H300.out HAT.out _ ?_ a w' hA)
  rintro a' w' ⟨hs, hd', hg⟩
  obtain ⟨u, rfl, -⟩ := lit192_of hs hd'
  have HGW := Lib.hid hg
  clear hg hs hd' H2 HNS hg3
  go_wp2_with (first
    | (go_at_call 10; ((with_reducible refine (HW.out _ HGW.out).mono ?_); rintro e w3 ⟨rfl, hg3⟩; have HG3 := Lib.hid (HFIN.out _ (grown_trans HGW.out hg3)); clear hg3)))
  go_ret
  exact ⟨rfl, HG3.out⟩
theorem tabs_of_laidT {W : World} (h : laidMetH Tryz.prog tt.laid1 W) : Tb W := ⟨tt.tab_of_laid h, tt.kinds_of_laid h⟩
theorem mk_pokT {c : Cfg} {core : Int} (hm : c.may) (h0 : 0 ≤ core) (h1 : core < c.co) : ∃ P : Pm, Pok P ∧ P.c = c ∧ P.core = core := by
  obtain ⟨N, hN, _⟩ := mrk.cfg_nat hm
  have hba := tt.hb_bounds (hm.1 5 (by omega))
  have hb1 : 1 ≤ c.ba := hba.1
  exact ⟨⟨c, core, N, c.ba.toNat⟩, ⟨hm, hN, by show c.ba = ((c.ba.toNat : Nat) : Int); omega, h0, h1⟩, rfl, rfl⟩
theorem tells_true (c : Cfg) (core : Int) (ad : Option Addr) (len cap : Nat) (w : World) (hT : Tb w) (os : List OpX) (hlen : len = os.length) (hat : OpsAt w ad os) : Calls Tryz.prog 6 #[.agg c.cells, .int .i64 core, .slice ad len cap] w fun e w' => e = .returned (.bool true) ∧ w.grownBy w' none := by
  by_cases h : 300 < len
  · exact tells_long c core ad len cap w hT h
  · by_cases hm : c.may ∧ 0 ≤ core ∧ core < c.co
    · obtain ⟨P, hP, rfl, rfl⟩ := mk_pokT hm.1 hm.2.1 hm.2.2
      exact tells_some P hP os ad len cap w hT hlen hat (by omega)
    · exact tells_no c core ad len cap w hT (by omega) hm
end Go.Proofs.YtinogiidiommkaaGreatDoor.nl
