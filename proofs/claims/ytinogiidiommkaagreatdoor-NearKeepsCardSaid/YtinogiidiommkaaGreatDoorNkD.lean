/-
  What a near leaves alone of lines that are not its own; the round of the law NearKeeps where a note arrives. Conditions: the tables of bounds and of kinds lie in their variables as the program's text has them; that the script lies where the argument says.
-/
import Derived.Test.YtinogiidiommkaaGreatDoorNkC
namespace Go.Proofs.YtinogiidiommkaaGreatDoor.nl
open Go Go.ChangeShapes Go.WideShapes Go.ChangeAt Go.RowKit Go.Shelf
open Go.Proofs.YtinogiidiommkaaGreatDoor.nr
open Go.Proofs.YtinogiidiommkaaGreatDoor.tt (OpX opc OpsAt cfg_at CfgAt Cfg Nt na nt zn bare zd fits row tyne lt_of U Tab TabK grown_refl grown_trans grown_alloc grown_setCells grown_drew grown_drewN yes Sl Next flat)
open Go.Proofs.YtinogiidiommkaaGreatDoor.kk (Ln St zl la ln cfind cdrop cuse cgoes cwrite cturn cput setAt setOf live fF Shp Cac Kept)
open Go.Proofs.YtinogiidiommkaaGreatDoor.bk (Bk rem kills puts putE fd fl Nd Rg dead fresh BkAt)
open Go.Proofs.YtinogiidiommkaaGreatDoor.mrk (Ms rdS wrS meets addE Dom MkAt)
open Go.Proofs.YtinogiidiommkaaGreatDoor.de (Dl sT gE rF aD LAt)
open Go.Proofs.YtinogiidiommkaaGreatDoor.oo (ref)
open Go.Proofs.YtinogiidiommkaaGreatDoor.gl
set_option linter.unusedVariables false
set_option linter.unusedSimpArgs false
set_option maxRecDepth 1000000
set_option maxHeartbeats 16000000

/-- Lines that are not the near's stay. -/
def Lx (L : LL) (w w' : World) : Prop := ∀ (g : Nat) (cs : Array Value) (fr : Nat × Nat), w.heap[g]? = some (Obj.cells cs 50 fr) → (∀ q ∈ L.c.gr, g ≠ q.1) → w'.heap[g]? = some (Obj.cells cs 50 fr)
theorem Lx.of {w w' : World} {L : LL} {v v' : Value} {P : Pm} {k : Nr} (hl : LN w { L with bv := v } P k) (hm : Mv w w' { L with bv := v } v') : Lx L w w' := fun g cs fr hg hn => by
  refine (hm.kp.block g (lt_of hg) ?_).trans hg
  have hz : ty w g 50 := ⟨_, _, hg⟩
  rintro (e | (e | e | ⟨q, hq, e⟩) | (e | e | e) | (e | e) | e)
  · exact ty_ne hl.tq hz (by decide) e.symm
  · exact ty_ne hl.tc hz (by decide) e.symm
  · exact ty_ne hl.ts hz (by decide) e.symm
  · exact hn q hq e.symm
  · exact ty_ne hl.tt' hz (by decide) e.symm
  · exact ty_ne hl.tp hz (by decide) e.symm
  · exact ty_ne (hl.tv e) hz (by decide) rfl
  · exact ty_ne hl.tm hz (by decide) e.symm
  · exact ty_nz hz hl.tmb e
  · exact ty_ne hl.td hz (by decide) e.symm
theorem Own.rows {w0 w : World} {L : LL} {P : Pm} {k : Nr} (o : Own w0 w L P k) : ∀ q ∈ L.c.gr, q.1 < w.heap.size := fun q hq => by
  obtain ⟨v, bs, hl, hs, hi⟩ := o.ex
  exact hl.lt (.inr (.inl (.inr (.inr ⟨q, hq, rfl⟩))))
theorem own_takeL {w0 w : World} {L : LL} {P : Pm} {k : Nr} (o : Own w0 w L P k) (I : Inv P k) (hP : Pok P) (n : Nt) : Calls Tryz.prog 20 #[.pointer (some ⟨L.q, 0, none⟩), .agg (na n)] w fun e w' => ∃ s, e = .returned (.tuple #[s, .bool (takeG P k n), .int .i64 (takeE P k n)]) ∧ OutN w w' s (takeO P k n) ∧ Own w0 w' L P (takeS P k n) ∧ Far L w w' ∧ Lx L w w' := by
  obtain ⟨v, bs, hl, hs, hi⟩ := o.ex
  obtain ⟨b2, h2, h3⟩ := takeS_same (P := P) hs n I.nd
  refine (take_any hl (inv_same hs I) hP n).mono fun e w' ⟨s, he, ho, v', b3, hl', hs', hm⟩ => ⟨s, ?_, ?_, Own.of o.old hi (by rw [h2] at hl'; exact hl') (h3.trans (by rw [h2] at hs'; exact hs')) hm, Far.of hl hm, Lx.of hl hm⟩
  · rw [he, takeG_same hs, takeE_same hs]
  · rw [takeO_same hs] at ho; exact ho
theorem keeps_3 (P : Pm) (L : LL) (k : Nr) (j len cap gb go : Nat) (q : OpX) (wb wr : World) (u : Nat → Value) (Q0 : Exit → Act → World → Prop) (hP : Pok P) (hOw : Own wb wr L P k) (hI : Inv P k) (hlt : j < len) (h300 : len ≤ 300)
    (hr : wr.rangeAt gb (go + j * 29) (opc q)) (hx : 0 ≤ q.x ∧ q.x < 4294967296) (hst : 0 ≤ q.n.st) (hk3 : q.kd = 3) (hk0 : ¬ q.kd = 0) (hk1 : ¬ q.kd = 1) (hk2 : ¬ q.kd = 2) :
    Code.wp Tryz.prog keepsBody (Exit.then (fun a' w' => KI wb L P len cap (some ⟨gb, go, none⟩) a' w' ∧ Mk len a' < Mk len ⟨#[u 0, u 1, u 2, u 3, u 4, u 5, u 6, .pointer (some ⟨L.q, 0, none⟩), u 8, u 9, u 10, u 11, u 12, u 13, u 14, u 15, u 16, u 17, u 18, u 19, u 20, u 21, u 22, u 23, u 24, u 25, u 26, u 27, u 28, u 29, u 30, u 31, u 32, u 33, u 34, u 35, u 36, u 37, u 38, u 39, u 40, u 41, u 42, .slice (some ⟨gb, go, none⟩) len cap, .int .i64 (len : Int), .int .i64 (j : Int), u 46, u 47, u 48, u 49, u 50, u 51, u 52, u 53, u 54, u 55, u 56, u 57, u 58, u 59, u 60, u 61, u 62, u 63, u 64, u 65, u 66, u 67, u 68, u 69, u 70, u 71, u 72, u 73, u 74, u 75, u 76, u 77, u 78, u 79, u 80, u 81, u 82, u 83, u 84, u 85, u 86, u 87, u 88, u 89, u 90, u 91, u 92, u 93, u 94, u 95, u 96, u 97, u 98, u 99, u 100, u 101, u 102, u 103, u 104, u 105, u 106, u 107, u 108, u 109, u 110, u 111, u 112, u 113, u 114, u 115, u 116, u 117, u 118, u 119, u 120, u 121, u 122, u 123, u 124, u 125, u 126, u 127, u 128, u 129, u 130, u 131, u 132, u 133, u 134, u 135, u 136, u 137, u 138, u 139, u 140, u 141, u 142, u 143, u 144, u 145, u 146, u 147, u 148, u 149, u 150, u 151, u 152, u 153, u 154, u 155, u 156, u 157, u 158, u 159, u 160, u 161, u 162, u 163, u 164, u 165, u 166, u 167, u 168, u 169, u 170, u 171, u 172, u 173, u 174, u 175, u 176, u 177, u 178, u 179, u 180, u 181, u 182, u 183, u 184, u 185, u 186, u 187, u 188, u 189, u 190, u 191, u 192, u 193, u 194, u 195, u 196, u 197, u 198, u 199, u 200, u 201, u 202, u 203, u 204, u 205, u 206, u 207, u 208, u 209, u 210, u 211, u 212, u 213, u 214, u 215, u 216, u 217, u 218, u 219, u 220, u 221, u 222, u 223, u 224, u 225, u 226, u 227, u 228, u 229, u 230, u 231, u 232, u 233, u 234, u 235, u 236, u 237, u 238, u 239, u 240, u 241, u 242, u 243, u 244, u 245, u 246, u 247, u 248, u 249, u 250, u 251, u 252, u 253, u 254, u 255, u 256, u 257, u 258, u 259, u 260, u 261, u 262], []⟩) Q0) ⟨#[u 0, u 1, u 2, u 3, u 4, u 5, u 6, .pointer (some ⟨L.q, 0, none⟩), u 8, u 9, u 10, u 11, u 12, u 13, u 14, u 15, u 16, u 17, u 18, u 19, u 20, u 21, u 22, u 23, u 24, u 25, u 26, u 27, u 28, u 29, u 30, u 31, u 32, u 33, u 34, u 35, u 36, u 37, u 38, u 39, u 40, u 41, u 42, .slice (some ⟨gb, go, none⟩) len cap, .int .i64 (len : Int), .int .i64 (j : Int), u 46, u 47, u 48, u 49, u 50, u 51, u 52, u 53, u 54, u 55, u 56, u 57, u 58, u 59, u 60, u 61, u 62, u 63, u 64, u 65, u 66, u 67, u 68, u 69, u 70, u 71, u 72, u 73, u 74, u 75, u 76, u 77, u 78, u 79, u 80, u 81, u 82, u 83, u 84, u 85, u 86, u 87, u 88, u 89, u 90, u 91, u 92, u 93, u 94, u 95, u 96, u 97, u 98, u 99, u 100, u 101, u 102, u 103, u 104, u 105, u 106, u 107, u 108, u 109, u 110, u 111, u 112, u 113, u 114, u 115, u 116, u 117, u 118, u 119, u 120, u 121, u 122, u 123, u 124, u 125, u 126, u 127, u 128, u 129, u 130, u 131, u 132, u 133, u 134, u 135, u 136, u 137, u 138, u 139, u 140, u 141, u 142, u 143, u 144, u 145, u 146, u 147, u 148, u 149, u 150, u 151, u 152, u 153, u 154, u 155, u 156, u 157, u 158, u 159, u 160, u 161, u 162, u 163, u 164, u 165, u 166, u 167, u 168, u 169, u 170, u 171, u 172, u 173, u 174, u 175, u 176, u 177, u 178, u 179, u 180, u 181, u 182, u 183, u 184, u 185, u 186, u 187, u 188, u 189, u 190, u 191, u 192, u 193, u 194, u 195, u 196, u 197, u 198, u 199, u 200, u 201, u 202, u 203, u 204, u 205, u 206, u 207, u 208, u 209, u 210, u 211, u 212, u 213, u 214, u 215, u 216, u 217, u 218, u 219, u 220, u 221, u 222, u 223, u 224, u 225, u 226, u 227, u 228, u 229, u 230, u 231, u 232, u 233, u 234, u 235, u 236, u 237, u 238, u 239, u 240, u 241, u 242, u 243, u 244, u 245, u 246, u 247, u 248, u 249, u 250, u 251, u 252, u 253, u 254, u 255, u 256, u 257, u 258, u 259, u 260, u 261, u 262], []⟩ wr := by
  have HO := Lib.hid hOw
  have HI := Lib.hid hI
  have HP := Lib.hid hP
  have HZO : Hid (opa opz = _) := Lib.hid opz_na
  have hj300 : j ≤ 300 := by omega
  clear hOw hI hP
  have HN := Lib.hid (St.new HO.out q)
  obtain ⟨W, hW⟩ : ∃ z, (wr.alloc (.cells (opa opz) 65)).setCells wr.heap.size 0 (opc q) = z := ⟨_, rfl⟩
  rw [hW] at HN
  rw [HZO.out] at HN hW
  have S0 := Lib.hid HN.out.2
  have HW0 := Lib.hid hW
  obtain ⟨c0, c1, c2, c3, c4, c5, c8⟩ := S0.out.cells
  have HMK := Lib.hid (own_marked S0.out.own q.n.b)
  have HDL := Lib.hid (own_deal S0.out.own)
  have HDP := Lib.hid (own_depth S0.out.own)
  clear hW
  conv => arg 2; whnf
  go_upto_region 9 with (first
    | ((with_reducible refine load_op q 47 gb (go + j * 29) ?_ hr ?_); ((rfl)))
    | ((with_reducible refine store_op q 10 48 wr.heap.size ?_ ?_ ?_ ?_); ((rfl)); ((rfl)); ((exact HN.out.1))))
  rw [HW0.out]
  clear hr HN
  go_upto_region 13 with (first
    | (go_at_call 34; ((with_reducible refine HMK.out.mono ?_); rintro e w4 ⟨rfl, rfl⟩))
    | (go_at_call 24; ((with_reducible refine HDL.out.mono ?_); rintro e w4 ⟨rfl, rfl⟩))
    | (go_at_call 36; ((with_reducible refine HDP.out.mono ?_); rintro e w4 ⟨rfl, rfl⟩)))
  have e0 : (q.kd == 0) = false := by simpa using hk0
  have e1 : (q.kd == 1) = false := by simpa using hk1
  have e2 : (q.kd == 2) = false := by simpa using hk2
  have HL1 := Lib.hid (own_line S0.out.own q.n.b)
  obtain ⟨l0, hl0⟩ : ∃ z, (cfind P.c k.ss q.n.b).1 = z := ⟨_, rfl⟩
  obtain ⟨is0, his0⟩ : ∃ z, (cfind P.c k.ss q.n.b).2 = z := ⟨_, rfl⟩
  rw [hl0, his0] at HL1
  obtain ⟨k2, hk2e⟩ : ∃ z, takeS P k q.n = z := ⟨_, rfl⟩
  obtain ⟨ec, hec⟩ : ∃ z, takeE P k q.n = z := ⟨_, rfl⟩
  obtain ⟨lo, hlo⟩ : ∃ z, takeO P k q.n = z := ⟨_, rfl⟩
  have HCT : Hid (∀ (W : World) (Ns : List (Nat × Nt)), St wb W L P k wr.heap.size q Ns → _) := Lib.hid fun W Ns s => own_takeL s.own HI.out HP.out q.n
  rw [hk2e, hec, hlo] at HCT
  have HI2 := Lib.hid (HI.out.takeS HP.out (n := q.n))
  have HGD := Lib.hid (take_good HP.out HI.out q.n)
  have HLEN := Lib.hid (takeO_len P k q.n)
  rw [hk2e] at HI2
  rw [hk2e, hlo] at HGD
  rw [hlo] at HLEN
  obtain ⟨o, ho⟩ : ∃ z, decide ((0 : Int) < k.d.de) = z := ⟨_, rfl⟩
  obtain ⟨r, hr'⟩ : ∃ z, k.ms.r q.n.b = z := ⟨_, rfl⟩
  obtain ⟨wt, hwt'⟩ : ∃ z, k.ms.w q.n.b = z := ⟨_, rfl⟩
  obtain ⟨e4, he4⟩ : ∃ z, (q.n.k == 4) = z := ⟨_, rfl⟩
  obtain ⟨e5, he5⟩ : ∃ z, (q.n.k == 5) = z := ⟨_, rfl⟩
  obtain ⟨m, hmm⟩ : ∃ z, (o && ((wt && e4) || ((r || wt) && e5))) = z := ⟨_, rfl⟩
  have HKEPT : Hid (ec = 0 → m = true → ∃ x : Nt, lo = [x] ∧ x.st = sT k2.d ∧ x.k = 10 ∧ (cfind P.c k2.ss q.n.b).1 = l0 ∧ (cfind P.c k2.ss q.n.b).2 = is0) := Lib.hid (fun h0 h1 => by
    subst hmm
    rw [Bool.and_eq_true] at h1
    obtain ⟨h2, h3⟩ := h1
    rw [← ho] at h2
    have h2 := of_decide_eq_true h2
    have hK := kept (n := q.n) HI.out (hec.trans h0) h2 (by
      rw [← he4, ← he5, ← hr', ← hwt'] at h3
      rw [Bool.or_eq_true, Bool.and_eq_true, Bool.and_eq_true] at h3
      rcases h3 with ⟨a1, a2⟩ | ⟨a1, a2⟩
      · exact .inl ⟨by simpa using a2, a1⟩
      · exact .inr ⟨by simpa using a2, a1⟩)
    obtain ⟨q1, q2, q3, q4⟩ := hK
    refine ⟨refN P k q.n, hlo.symm.trans q1, by rw [q2, hk2e], q4, ?_, ?_⟩
    · rw [← hk2e, q3]; exact hl0
    · rw [← hk2e, q3]; exact his0)
  rw [ho, hr', hwt']
  clear hk0 hk1 hk2 hk3 hk2e hec hlo hl0 his0 ho hr' hwt'
  go_upto_region 21 with (first
    | (go_at_call 21; ((with_reducible refine HL1.out.mono ?_); rintro e w5 ⟨rfl, hg5⟩; have S5 := Lib.hid (S0.out.grown (grown_alloc hg5 (.cells (la l0) 50))); have HB15 := Lib.hid (heap_alloc_new w5 (.cells (la l0) 50)); have HRW := Lib.hid (S0.out.own.grown hg5).rows; clear hg5))
    | ((with_reducible refine kk.store_new' l0 15 101 ?_ ?_ ?_); ((rfl)); ((rfl))))
  obtain ⟨W5, hW5⟩ : ∃ z, w5.alloc (.cells (la l0) 50) = z := ⟨_, rfl⟩
  rw [hW5] at S5 HB15 ⊢
  obtain ⟨B, hB⟩ : ∃ z, w5.heap.size = z := ⟨_, rfl⟩
  rw [hB] at HB15 HRW ⊢
  clear hW5 hB
  have rq := S5.out.note
  go_upto_region 23 with (first
    | ((with_reducible refine load_o q.n 105 wr.heap.size 5 ?_ rq ?_); ((rfl)))
    | (go_at_call 20; ((with_reducible refine (HCT.out _ _ S5.out).mono ?_); rintro e w6 ⟨s, rfl, hout, hw, hf, hx'⟩; have S6 := Lib.hid (S5.out.far hw hf); have HB6 := Lib.hid (hx' _ _ _ HB15.out (fun p hp e => by have := HRW.out p hp; omega)); obtain ⟨ad4, cap4, rfl⟩ := hout.sl.form; have OS := Lib.hid hout; clear hout hw hf hx')))
  obtain ⟨c0', c1', c2', c3', c4', c5', c8'⟩ := S6.out.cells
  go_cut [18] from 111 to 132 (fun s18 wx => s18 = .bool m ∧ wx = w6)
  case first =>
    cases o
    · obtain rfl : m = false := by rw [← hmm]; rfl
      go_wp2_with fail
      go_meet
      exact ⟨rfl, rfl⟩
    · have hmm' : ((wt && e4) || ((r || wt) && e5)) = m := by rw [← hmm]; simp
      clear hmm
      cases wt <;> cases r <;> cases e4 <;> cases e5
      all_goals
        first
          | (exfalso; have h1 : q.n.k = 4 := by simpa using he4
             have h2 : q.n.k = 5 := by simpa using he5
             omega)
          | (simp only [Bool.and_true, Bool.and_false, Bool.true_and, Bool.false_and, Bool.or_true, Bool.or_false, Bool.true_or, Bool.false_or] at hmm'
             subst hmm'
             go_wp2_with fail
             go_meet
             exact ⟨rfl, rfl⟩)
  case rest =>
    obtain ⟨rfl, hwc⟩ := hcut
    obtain rfl := hwc.symm
    clear c0' c1' c2' c3' c4' c5' hmm he4 he5
    cases m
    · by_cases hz : ec = 0
      · have ez : (ec == 0) = true := by simpa using hz
        clear hz
        go_upto_region 40 with fail
        refine keeps_tail wb w6 L P k2 lo _ _ len j cap _ (some ⟨gb, go, none⟩) _ _ Q0 S6.out.own HI2.out HGD.out OS.out.sl HLEN.out hlt h300 ?hm (by assumption) _ (by assumption) _ ?_ ?_ ?_ ?_ ?_ ?_ ?_
        case hm =>
          show len - (j + 1) < len - (j : Int).toNat
          omega
        all_goals rfl
      · have ez : (ec == 0) = false := by simpa using hz
        clear hz
        go_upto_region 40 with fail
        refine keeps_tail wb w6 L P k2 lo _ _ len j cap _ (some ⟨gb, go, none⟩) _ _ Q0 S6.out.own HI2.out HGD.out OS.out.sl HLEN.out hlt h300 ?hm (by assumption) _ (by assumption) _ ?_ ?_ ?_ ?_ ?_ ?_ ?_
        case hm =>
          show len - (j + 1) < len - (j : Int).toNat
          omega
        all_goals rfl
    · by_cases hz : ec = 0
      · have ez : (ec == 0) = true := by simpa using hz
        obtain ⟨x, rfl, hxs, hxk, hl1, hi1⟩ := HKEPT.out hz rfl
        clear hz
        have HL2 := Lib.hid (own_line S6.out.own q.n.b)
        rw [hl1, hi1] at HL2
        obtain ⟨t, nn, HT, hagg, hsize, hld⟩ := kk.named
        have HXS := Lib.hid hxs
        have HXK := Lib.hid hxk
        clear hl1 hi1 hxs hxk
        go_upto_region 26 with (first
          | (go_at_call 21; ((with_reducible refine HL2.out.mono ?_); rintro e w7 ⟨rfl, hg7⟩; have S7 := Lib.hid (S6.out.grown (grown_alloc hg7 (.cells (la l0) 50))); have HC7 := Lib.hid (heap_alloc_new w7 (.cells (la l0) 50)); have HB7 := Lib.hid (((grown_alloc hg7 (.cells (la l0) 50)).block _ (lt_of HB6.out) (by simp)).trans HB6.out); have OS7 := Lib.hid (OS.out.grown (grown_alloc hg7 (.cells (la l0) 50))); clear hg7))
          | ((with_reducible refine kk.store_new' l0 19 144 ?_ ?_ ?_); ((rfl)); ((rfl))))
        obtain ⟨W7, hW7⟩ : ∃ z, w7.alloc (.cells (la l0) 50) = z := ⟨_, rfl⟩
        rw [hW7] at S7 HC7 HB7 OS7 ⊢
        obtain ⟨B2, hB2⟩ : ∃ z, w7.heap.size = z := ⟨_, rfl⟩
        rw [hB2] at HC7 ⊢
        clear hW7 hB2
        obtain ⟨g4, o4, rfl, _, hr4⟩ := nsl_at OS7.out.sl 0 x rfl
        rw [Nat.zero_mul, Nat.add_zero] at hr4
        have x0 : ∀ i, (W7.drewN i).cell? ⟨g4, o4, none⟩ = some (.int .u8 10) := fun i => by have := hr4 0 _ rfl; rw [Nat.add_zero] at this; exact this.trans (by rw [HXK.out])
        have x4 : ∀ i, (W7.drewN i).cell? ⟨g4, o4 + 4, none⟩ = some (.int .u64 (sT k2.d)) := fun i => (hr4 4 _ rfl).trans (by rw [HXS.out])
        have l1 : ∀ i, (loadCellsFrom ⟨B, 0, none⟩ 0 nn #[]).run Tryz.prog (W7.drewN i) = .ok (la l0) (W7.drewN i) := fun i => hld B 0 l0 _ (kk.range_of HB7.out)
        have l2 : ∀ i, (loadCellsFrom ⟨B2, 0, none⟩ 0 nn #[]).run Tryz.prog (W7.drewN i) = .ok (la l0) (W7.drewN i) := fun i => hld B2 0 l0 _ (kk.range_of HC7.out)
        have hln : ∀ w, (binOp .neq 50 (.agg (la l0)) (.agg (la l0))).run Tryz.prog w = .ok (.bool false) w := fun w => by rw [kk.q36n, decide_eq_true rfl]; rfl
        have hii : (is0 != is0) = false := by cases is0 <;> rfl
        have HDE := Lib.hid fun i => own_deal (S7.out.own.grown (grown_drewN (grown_refl W7 none) i))
        have HSE := Lib.hid fun i => own_stamp (S7.out.own.grown (grown_drewN (grown_refl W7 none) i))
        rw [HT.out]
        clear hld hr4
        go_quiet (first
          | (go_at_call 24; exact Calls.quiet_of_same ((HDE.out _).mono fun _ _ he => ⟨he.1, he.2.symm⟩))
          | (go_at_call 28; exact Calls.quiet_of_same ((HSE.out _).mono fun _ _ he => ⟨he.1, he.2.symm⟩)))
        clear x0 x4 l1 l2
        go_upto_region 40 with fail
        refine keeps_tail wb _ L P k2 [x] _ _ len j cap _ (some ⟨gb, go, none⟩) _ _ Q0 (S7.out.own.grown (grown_drewN (grown_refl _ _) _)) HI2.out HGD.out (OS7.out.grown (grown_drewN (grown_refl _ _) _)).sl HLEN.out hlt h300 ?hm (by assumption) _ (by assumption) _ ?_ ?_ ?_ ?_ ?_ ?_ ?_
        case hm =>
          show len - (j + 1) < len - (j : Int).toNat
          omega
        all_goals rfl
      · have ez : (ec == 0) = false := by simpa using hz
        clear hz
        go_upto_region 40 with fail
        refine keeps_tail wb w6 L P k2 lo _ _ len j cap _ (some ⟨gb, go, none⟩) _ _ Q0 S6.out.own HI2.out HGD.out OS.out.sl HLEN.out hlt h300 ?hm (by assumption) _ (by assumption) _ ?_ ?_ ?_ ?_ ?_ ?_ ?_
        case hm =>
          show len - (j + 1) < len - (j : Int).toNat
          omega
        all_goals rfl
end Go.Proofs.YtinogiidiommkaaGreatDoor.nl
