/-
  Rounds of the law NearKeeps: a transaction begins, ends, fails, is over. Conditions: the tables of bounds and of kinds lie in their variables as the program's text has them; that the script lies where the argument says.
-/
import Derived.Test.YtinogiidiommkaaGreatDoorNkB
namespace Go.Proofs.YtinogiidiommkaaGreatDoor.nl
open Go Go.ChangeShapes Go.WideShapes Go.ChangeAt Go.RowKit Go.Shelf
open Go.Proofs.YtinogiidiommkaaGreatDoor.nr
open Go.Proofs.YtinogiidiommkaaGreatDoor.tt (OpX opc OpsAt cfg_at CfgAt Cfg Nt na nt zn bare zd fits row tyne lt_of U Tab TabK grown_refl grown_trans grown_alloc grown_setCells grown_drew grown_drewN yes Sl Next flat)
open Go.Proofs.YtinogiidiommkaaGreatDoor.kk (Ln St zl la ln cfind cdrop cuse cgoes cwrite cturn cput setAt setOf live fF Shp Cac Kept)
open Go.Proofs.YtinogiidiommkaaGreatDoor.bk (Bk rem kills puts putE fd fl Nd Rg dead fresh BkAt)
open Go.Proofs.YtinogiidiommkaaGreatDoor.mrk (Ms rdS wrS meets addE Dom MkAt)
open Go.Proofs.YtinogiidiommkaaGreatDoor.de (Dl sT gE rF aD LAt)
open Go.Proofs.YtinogiidiommkaaGreatDoor.oo (ref)
open Go.Proofs.YtinogiidiommkaaGreatDoor.gl
set_option linter.unusedVariables false
set_option maxRecDepth 1000000
set_option maxHeartbeats 16000000

theorem keeps_4 (P : Pm) (L : LL) (k : Nr) (j len cap gb go : Nat) (q : OpX) (wb wr : World) (u : Nat → Value) (Q0 : Exit → Act → World → Prop) (hP : Pok P) (hOw : Own wb wr L P k) (hI : Inv P k) (hlt : j < len) (h300 : len ≤ 300)
    (hr : wr.rangeAt gb (go + j * 29) (opc q)) (hx : 0 ≤ q.x ∧ q.x < 4294967296) (hst : 0 ≤ q.n.st) (hk4 : q.kd = 4) (hk0 : ¬ q.kd = 0) (hk1 : ¬ q.kd = 1) (hk2 : ¬ q.kd = 2) (hk3 : ¬ q.kd = 3) :
    Code.wp Tryz.prog keepsBody (Exit.then (fun a' w' => KI wb L P len cap (some ⟨gb, go, none⟩) a' w' ∧ Mk len a' < Mk len ⟨#[u 0, u 1, u 2, u 3, u 4, u 5, u 6, .pointer (some ⟨L.q, 0, none⟩), u 8, u 9, u 10, u 11, u 12, u 13, u 14, u 15, u 16, u 17, u 18, u 19, u 20, u 21, u 22, u 23, u 24, u 25, u 26, u 27, u 28, u 29, u 30, u 31, u 32, u 33, u 34, u 35, u 36, u 37, u 38, u 39, u 40, u 41, u 42, .slice (some ⟨gb, go, none⟩) len cap, .int .i64 (len : Int), .int .i64 (j : Int), u 46, u 47, u 48, u 49, u 50, u 51, u 52, u 53, u 54, u 55, u 56, u 57, u 58, u 59, u 60, u 61, u 62, u 63, u 64, u 65, u 66, u 67, u 68, u 69, u 70, u 71, u 72, u 73, u 74, u 75, u 76, u 77, u 78, u 79, u 80, u 81, u 82, u 83, u 84, u 85, u 86, u 87, u 88, u 89, u 90, u 91, u 92, u 93, u 94, u 95, u 96, u 97, u 98, u 99, u 100, u 101, u 102, u 103, u 104, u 105, u 106, u 107, u 108, u 109, u 110, u 111, u 112, u 113, u 114, u 115, u 116, u 117, u 118, u 119, u 120, u 121, u 122, u 123, u 124, u 125, u 126, u 127, u 128, u 129, u 130, u 131, u 132, u 133, u 134, u 135, u 136, u 137, u 138, u 139, u 140, u 141, u 142, u 143, u 144, u 145, u 146, u 147, u 148, u 149, u 150, u 151, u 152, u 153, u 154, u 155, u 156, u 157, u 158, u 159, u 160, u 161, u 162, u 163, u 164, u 165, u 166, u 167, u 168, u 169, u 170, u 171, u 172, u 173, u 174, u 175, u 176, u 177, u 178, u 179, u 180, u 181, u 182, u 183, u 184, u 185, u 186, u 187, u 188, u 189, u 190, u 191, u 192, u 193, u 194, u 195, u 196, u 197, u 198, u 199, u 200, u 201, u 202, u 203, u 204, u 205, u 206, u 207, u 208, u 209, u 210, u 211, u 212, u 213, u 214, u 215, u 216, u 217, u 218, u 219, u 220, u 221, u 222, u 223, u 224, u 225, u 226, u 227, u 228, u 229, u 230, u 231, u 232, u 233, u 234, u 235, u 236, u 237, u 238, u 239, u 240, u 241, u 242, u 243, u 244, u 245, u 246, u 247, u 248, u 249, u 250, u 251, u 252, u 253, u 254, u 255, u 256, u 257, u 258, u 259, u 260, u 261, u 262], []⟩) Q0) ⟨#[u 0, u 1, u 2, u 3, u 4, u 5, u 6, .pointer (some ⟨L.q, 0, none⟩), u 8, u 9, u 10, u 11, u 12, u 13, u 14, u 15, u 16, u 17, u 18, u 19, u 20, u 21, u 22, u 23, u 24, u 25, u 26, u 27, u 28, u 29, u 30, u 31, u 32, u 33, u 34, u 35, u 36, u 37, u 38, u 39, u 40, u 41, u 42, .slice (some ⟨gb, go, none⟩) len cap, .int .i64 (len : Int), .int .i64 (j : Int), u 46, u 47, u 48, u 49, u 50, u 51, u 52, u 53, u 54, u 55, u 56, u 57, u 58, u 59, u 60, u 61, u 62, u 63, u 64, u 65, u 66, u 67, u 68, u 69, u 70, u 71, u 72, u 73, u 74, u 75, u 76, u 77, u 78, u 79, u 80, u 81, u 82, u 83, u 84, u 85, u 86, u 87, u 88, u 89, u 90, u 91, u 92, u 93, u 94, u 95, u 96, u 97, u 98, u 99, u 100, u 101, u 102, u 103, u 104, u 105, u 106, u 107, u 108, u 109, u 110, u 111, u 112, u 113, u 114, u 115, u 116, u 117, u 118, u 119, u 120, u 121, u 122, u 123, u 124, u 125, u 126, u 127, u 128, u 129, u 130, u 131, u 132, u 133, u 134, u 135, u 136, u 137, u 138, u 139, u 140, u 141, u 142, u 143, u 144, u 145, u 146, u 147, u 148, u 149, u 150, u 151, u 152, u 153, u 154, u 155, u 156, u 157, u 158, u 159, u 160, u 161, u 162, u 163, u 164, u 165, u 166, u 167, u 168, u 169, u 170, u 171, u 172, u 173, u 174, u 175, u 176, u 177, u 178, u 179, u 180, u 181, u 182, u 183, u 184, u 185, u 186, u 187, u 188, u 189, u 190, u 191, u 192, u 193, u 194, u 195, u 196, u 197, u 198, u 199, u 200, u 201, u 202, u 203, u 204, u 205, u 206, u 207, u 208, u 209, u 210, u 211, u 212, u 213, u 214, u 215, u 216, u 217, u 218, u 219, u 220, u 221, u 222, u 223, u 224, u 225, u 226, u 227, u 228, u 229, u 230, u 231, u 232, u 233, u 234, u 235, u 236, u 237, u 238, u 239, u 240, u 241, u 242, u 243, u 244, u 245, u 246, u 247, u 248, u 249, u 250, u 251, u 252, u 253, u 254, u 255, u 256, u 257, u 258, u 259, u 260, u 261, u 262], []⟩ wr := by
  have HO := Lib.hid hOw
  have HI := Lib.hid hI
  have HP := Lib.hid hP
  have HZO : Hid (opa opz = _) := Lib.hid opz_na
  have hj300 : j ≤ 300 := by omega
  clear hOw hI hP
  have HN := Lib.hid (St.new HO.out q)
  obtain ⟨W, hW⟩ : ∃ z, (wr.alloc (.cells (opa opz) 65)).setCells wr.heap.size 0 (opc q) = z := ⟨_, rfl⟩
  rw [hW] at HN
  rw [HZO.out] at HN hW
  have S0 := Lib.hid HN.out.2
  have HW0 := Lib.hid hW
  obtain ⟨c0, c1, c2, c3, c4, c5, c8⟩ := S0.out.cells
  have HMK := Lib.hid (own_marked S0.out.own q.n.b)
  have HDL := Lib.hid (own_deal S0.out.own)
  have HDP := Lib.hid (own_depth S0.out.own)
  clear hW
  conv => arg 2; whnf
  go_upto_region 9 with (first
    | ((with_reducible refine load_op q 47 gb (go + j * 29) ?_ hr ?_); ((rfl)))
    | ((with_reducible refine store_op q 10 48 wr.heap.size ?_ ?_ ?_ ?_); ((rfl)); ((rfl)); ((exact HN.out.1))))
  rw [HW0.out]
  clear hr HN
  go_upto_region 13 with (first
    | (go_at_call 34; ((with_reducible refine HMK.out.mono ?_); rintro e w4 ⟨rfl, rfl⟩))
    | (go_at_call 24; ((with_reducible refine HDL.out.mono ?_); rintro e w4 ⟨rfl, rfl⟩))
    | (go_at_call 36; ((with_reducible refine HDP.out.mono ?_); rintro e w4 ⟨rfl, rfl⟩)))
  have e0 : (q.kd == 0) = false := by simpa using hk0
  have e1 : (q.kd == 1) = false := by simpa using hk1
  have e2 : (q.kd == 2) = false := by simpa using hk2
  have e3 : (q.kd == 3) = false := by simpa using hk3
  have hxx : IntKind.u64.wrap (q.x + 1) = q.x + 1 := by have := hx.2; have := hx.1; simp [IntKind.wrap, IntKind.bits, IntKind.signed]; omega
  have hx0 : IntKind.u64.wrap q.x = q.x := by have := hx.2; have := hx.1; simp [IntKind.wrap, IntKind.bits, IntKind.signed]; omega
  have HI2 := Lib.hid (HI.out.deal (HI.out.dl.bD (s := de.zs) (x := q.x + 1) (by have := hx.1; omega)))
  have HSZ : Hid (de.sa de.zs = _) := Lib.hid de.zs_sa
  have HC1 : Hid (Calls Tryz.prog 37 #[.pointer (some ⟨L.dg, 0, none⟩), .agg (de.sa de.zs), .int .u64 (q.x + 1)] W.drew fun e w' => (∃ y, e = .returned (.int .i64 y)) ∧ Own wb w' L P { k with d := de.bD k.d de.zs (q.x + 1) }) := Lib.hid (by
    have o := S0.out.own.grown (grown_drew (grown_refl W none))
    exact (de.begin_any (own_at o) de.zs (q.x + 1) HI.out.dl.d0 (Int.le_trans HI.out.dl.dn HI.out.dl.n8)).mono fun e w' hh => ⟨⟨_, hh.1⟩, (own_dl o hh.2.1 hh.2.2).1⟩)
  have HD1 : Hid (Calls Tryz.prog 24 #[.pointer (some ⟨L.q, 0, none⟩)] W.drew fun e w' => e = .returned (.pointer (some ⟨L.dg, 0, none⟩)) ∧ w' = W.drew) := Lib.hid ((own_deal (S0.out.own.grown (grown_drew (grown_refl W none)))).mono fun e w' hh => ⟨hh.1, hh.2.symm⟩)
  rw [HSZ.out] at HC1
  clear hk0 hk1 hk2 hk3 hk4
  go_upto_region 29 with fail
  go_still_tail 7, (by kernel_rfl)
  still_call HD1.out
  repeat still_step
  refine wpStill_nil ?_
  change wpList _ _ _ _ _ W.drew
  go_upto_region 40 with (first
    | (go_at_call 37; ((with_reducible refine HC1.out.mono ?_); rintro e w4 ⟨⟨y, rfl⟩, hw⟩; have S4 := Lib.hid hw; clear hw)))
  refine keeps_tail wb w4 L P { k with d := de.bD k.d de.zs (q.x + 1) } [] _ _ len j cap _ (some ⟨gb, go, none⟩) _ _ Q0 S4.out HI2.out (by intro x hx; cases hx) (OutN.nil wb w4).sl (by simp) hlt h300 ?hm (by assumption) _ (by assumption) _ ?_ ?_ ?_ ?_ ?_ ?_ ?_
  case hm =>
    show len - (j + 1) < len - (j : Int).toNat
    omega
  all_goals rfl
theorem keeps_6 (P : Pm) (L : LL) (k : Nr) (j len cap gb go : Nat) (q : OpX) (wb wr : World) (u : Nat → Value) (Q0 : Exit → Act → World → Prop) (hP : Pok P) (hOw : Own wb wr L P k) (hI : Inv P k) (hlt : j < len) (h300 : len ≤ 300)
    (hr : wr.rangeAt gb (go + j * 29) (opc q)) (hx : 0 ≤ q.x ∧ q.x < 4294967296) (hst : 0 ≤ q.n.st) (hk6 : q.kd = 6) (hk0 : ¬ q.kd = 0) (hk1 : ¬ q.kd = 1) (hk2 : ¬ q.kd = 2) (hk3 : ¬ q.kd = 3) (hk4 : ¬ q.kd = 4) (hk5 : ¬ q.kd = 5) :
    Code.wp Tryz.prog keepsBody (Exit.then (fun a' w' => KI wb L P len cap (some ⟨gb, go, none⟩) a' w' ∧ Mk len a' < Mk len ⟨#[u 0, u 1, u 2, u 3, u 4, u 5, u 6, .pointer (some ⟨L.q, 0, none⟩), u 8, u 9, u 10, u 11, u 12, u 13, u 14, u 15, u 16, u 17, u 18, u 19, u 20, u 21, u 22, u 23, u 24, u 25, u 26, u 27, u 28, u 29, u 30, u 31, u 32, u 33, u 34, u 35, u 36, u 37, u 38, u 39, u 40, u 41, u 42, .slice (some ⟨gb, go, none⟩) len cap, .int .i64 (len : Int), .int .i64 (j : Int), u 46, u 47, u 48, u 49, u 50, u 51, u 52, u 53, u 54, u 55, u 56, u 57, u 58, u 59, u 60, u 61, u 62, u 63, u 64, u 65, u 66, u 67, u 68, u 69, u 70, u 71, u 72, u 73, u 74, u 75, u 76, u 77, u 78, u 79, u 80, u 81, u 82, u 83, u 84, u 85, u 86, u 87, u 88, u 89, u 90, u 91, u 92, u 93, u 94, u 95, u 96, u 97, u 98, u 99, u 100, u 101, u 102, u 103, u 104, u 105, u 106, u 107, u 108, u 109, u 110, u 111, u 112, u 113, u 114, u 115, u 116, u 117, u 118, u 119, u 120, u 121, u 122, u 123, u 124, u 125, u 126, u 127, u 128, u 129, u 130, u 131, u 132, u 133, u 134, u 135, u 136, u 137, u 138, u 139, u 140, u 141, u 142, u 143, u 144, u 145, u 146, u 147, u 148, u 149, u 150, u 151, u 152, u 153, u 154, u 155, u 156, u 157, u 158, u 159, u 160, u 161, u 162, u 163, u 164, u 165, u 166, u 167, u 168, u 169, u 170, u 171, u 172, u 173, u 174, u 175, u 176, u 177, u 178, u 179, u 180, u 181, u 182, u 183, u 184, u 185, u 186, u 187, u 188, u 189, u 190, u 191, u 192, u 193, u 194, u 195, u 196, u 197, u 198, u 199, u 200, u 201, u 202, u 203, u 204, u 205, u 206, u 207, u 208, u 209, u 210, u 211, u 212, u 213, u 214, u 215, u 216, u 217, u 218, u 219, u 220, u 221, u 222, u 223, u 224, u 225, u 226, u 227, u 228, u 229, u 230, u 231, u 232, u 233, u 234, u 235, u 236, u 237, u 238, u 239, u 240, u 241, u 242, u 243, u 244, u 245, u 246, u 247, u 248, u 249, u 250, u 251, u 252, u 253, u 254, u 255, u 256, u 257, u 258, u 259, u 260, u 261, u 262], []⟩) Q0) ⟨#[u 0, u 1, u 2, u 3, u 4, u 5, u 6, .pointer (some ⟨L.q, 0, none⟩), u 8, u 9, u 10, u 11, u 12, u 13, u 14, u 15, u 16, u 17, u 18, u 19, u 20, u 21, u 22, u 23, u 24, u 25, u 26, u 27, u 28, u 29, u 30, u 31, u 32, u 33, u 34, u 35, u 36, u 37, u 38, u 39, u 40, u 41, u 42, .slice (some ⟨gb, go, none⟩) len cap, .int .i64 (len : Int), .int .i64 (j : Int), u 46, u 47, u 48, u 49, u 50, u 51, u 52, u 53, u 54, u 55, u 56, u 57, u 58, u 59, u 60, u 61, u 62, u 63, u 64, u 65, u 66, u 67, u 68, u 69, u 70, u 71, u 72, u 73, u 74, u 75, u 76, u 77, u 78, u 79, u 80, u 81, u 82, u 83, u 84, u 85, u 86, u 87, u 88, u 89, u 90, u 91, u 92, u 93, u 94, u 95, u 96, u 97, u 98, u 99, u 100, u 101, u 102, u 103, u 104, u 105, u 106, u 107, u 108, u 109, u 110, u 111, u 112, u 113, u 114, u 115, u 116, u 117, u 118, u 119, u 120, u 121, u 122, u 123, u 124, u 125, u 126, u 127, u 128, u 129, u 130, u 131, u 132, u 133, u 134, u 135, u 136, u 137, u 138, u 139, u 140, u 141, u 142, u 143, u 144, u 145, u 146, u 147, u 148, u 149, u 150, u 151, u 152, u 153, u 154, u 155, u 156, u 157, u 158, u 159, u 160, u 161, u 162, u 163, u 164, u 165, u 166, u 167, u 168, u 169, u 170, u 171, u 172, u 173, u 174, u 175, u 176, u 177, u 178, u 179, u 180, u 181, u 182, u 183, u 184, u 185, u 186, u 187, u 188, u 189, u 190, u 191, u 192, u 193, u 194, u 195, u 196, u 197, u 198, u 199, u 200, u 201, u 202, u 203, u 204, u 205, u 206, u 207, u 208, u 209, u 210, u 211, u 212, u 213, u 214, u 215, u 216, u 217, u 218, u 219, u 220, u 221, u 222, u 223, u 224, u 225, u 226, u 227, u 228, u 229, u 230, u 231, u 232, u 233, u 234, u 235, u 236, u 237, u 238, u 239, u 240, u 241, u 242, u 243, u 244, u 245, u 246, u 247, u 248, u 249, u 250, u 251, u 252, u 253, u 254, u 255, u 256, u 257, u 258, u 259, u 260, u 261, u 262], []⟩ wr := by
  have HO := Lib.hid hOw
  have HI := Lib.hid hI
  have HP := Lib.hid hP
  have HZO : Hid (opa opz = _) := Lib.hid opz_na
  have hj300 : j ≤ 300 := by omega
  clear hOw hI hP
  have HN := Lib.hid (St.new HO.out q)
  obtain ⟨W, hW⟩ : ∃ z, (wr.alloc (.cells (opa opz) 65)).setCells wr.heap.size 0 (opc q) = z := ⟨_, rfl⟩
  rw [hW] at HN
  rw [HZO.out] at HN hW
  have S0 := Lib.hid HN.out.2
  have HW0 := Lib.hid hW
  obtain ⟨c0, c1, c2, c3, c4, c5, c8⟩ := S0.out.cells
  have HMK := Lib.hid (own_marked S0.out.own q.n.b)
  have HDL := Lib.hid (own_deal S0.out.own)
  have HDP := Lib.hid (own_depth S0.out.own)
  clear hW
  conv => arg 2; whnf
  go_upto_region 9 with (first
    | ((with_reducible refine load_op q 47 gb (go + j * 29) ?_ hr ?_); ((rfl)))
    | ((with_reducible refine store_op q 10 48 wr.heap.size ?_ ?_ ?_ ?_); ((rfl)); ((rfl)); ((exact HN.out.1))))
  rw [HW0.out]
  clear hr HN
  go_upto_region 13 with (first
    | (go_at_call 34; ((with_reducible refine HMK.out.mono ?_); rintro e w4 ⟨rfl, rfl⟩))
    | (go_at_call 24; ((with_reducible refine HDL.out.mono ?_); rintro e w4 ⟨rfl, rfl⟩))
    | (go_at_call 36; ((with_reducible refine HDP.out.mono ?_); rintro e w4 ⟨rfl, rfl⟩)))
  have e0 : (q.kd == 0) = false := by simpa using hk0
  have e1 : (q.kd == 1) = false := by simpa using hk1
  have e2 : (q.kd == 2) = false := by simpa using hk2
  have e3 : (q.kd == 3) = false := by simpa using hk3
  have e4 : (q.kd == 4) = false := by simpa using hk4
  have e5 : (q.kd == 5) = false := by simpa using hk5
  have HI2 := Lib.hid (HI.out.deal (HI.out.dl.fD (c := q.x) hx.1 hx.2))
  have HC1 : Hid (Calls Tryz.prog 39 #[.pointer (some ⟨L.dg, 0, none⟩), .int .u32 q.x] W.drew fun e w' => (∃ y, e = .returned (.int .i64 y)) ∧ Own wb w' L P { k with d := de.fD k.d q.x }) := Lib.hid (by
    have o := S0.out.own.grown (grown_drew (grown_refl W none))
    exact (de.fail_any (own_at o) q.x).mono fun e w' hh => ⟨⟨_, hh.1⟩, (own_dl o hh.2.1 hh.2.2).1⟩)
  have HD1 : Hid (Calls Tryz.prog 24 #[.pointer (some ⟨L.q, 0, none⟩)] W.drew fun e w' => e = .returned (.pointer (some ⟨L.dg, 0, none⟩)) ∧ w' = W.drew) := Lib.hid ((own_deal (S0.out.own.grown (grown_drew (grown_refl W none)))).mono fun e w' hh => ⟨hh.1, hh.2.symm⟩)
  clear hk0 hk1 hk2 hk3 hk4 hk5 hk6
  go_upto_region 35 with fail
  go_still_tail 4, (by kernel_rfl)
  still_call HD1.out
  repeat still_step
  refine wpStill_nil ?_
  change wpList _ _ _ _ _ W.drew
  go_upto_region 40 with (first
    | (go_at_call 39; ((with_reducible refine HC1.out.mono ?_); rintro e w4 ⟨⟨y, rfl⟩, hw⟩; have S4 := Lib.hid hw; clear hw)))
  refine keeps_tail wb w4 L P { k with d := de.fD k.d q.x } [] _ _ len j cap _ (some ⟨gb, go, none⟩) _ _ Q0 S4.out HI2.out (by intro x hx; cases hx) (OutN.nil wb w4).sl (by simp) hlt h300 ?hm (by assumption) _ (by assumption) _ ?_ ?_ ?_ ?_ ?_ ?_ ?_
  case hm =>
    show len - (j + 1) < len - (j : Int).toNat
    omega
  all_goals rfl
theorem keeps_5 (P : Pm) (L : LL) (k : Nr) (j len cap gb go : Nat) (q : OpX) (wb wr : World) (u : Nat → Value) (Q0 : Exit → Act → World → Prop) (hP : Pok P) (hOw : Own wb wr L P k) (hI : Inv P k) (hlt : j < len) (h300 : len ≤ 300)
    (hr : wr.rangeAt gb (go + j * 29) (opc q)) (hx : 0 ≤ q.x ∧ q.x < 4294967296) (hst : 0 ≤ q.n.st) (hk5 : q.kd = 5) (hk0 : ¬ q.kd = 0) (hk1 : ¬ q.kd = 1) (hk2 : ¬ q.kd = 2) (hk3 : ¬ q.kd = 3) (hk4 : ¬ q.kd = 4) :
    Code.wp Tryz.prog keepsBody (Exit.then (fun a' w' => KI wb L P len cap (some ⟨gb, go, none⟩) a' w' ∧ Mk len a' < Mk len ⟨#[u 0, u 1, u 2, u 3, u 4, u 5, u 6, .pointer (some ⟨L.q, 0, none⟩), u 8, u 9, u 10, u 11, u 12, u 13, u 14, u 15, u 16, u 17, u 18, u 19, u 20, u 21, u 22, u 23, u 24, u 25, u 26, u 27, u 28, u 29, u 30, u 31, u 32, u 33, u 34, u 35, u 36, u 37, u 38, u 39, u 40, u 41, u 42, .slice (some ⟨gb, go, none⟩) len cap, .int .i64 (len : Int), .int .i64 (j : Int), u 46, u 47, u 48, u 49, u 50, u 51, u 52, u 53, u 54, u 55, u 56, u 57, u 58, u 59, u 60, u 61, u 62, u 63, u 64, u 65, u 66, u 67, u 68, u 69, u 70, u 71, u 72, u 73, u 74, u 75, u 76, u 77, u 78, u 79, u 80, u 81, u 82, u 83, u 84, u 85, u 86, u 87, u 88, u 89, u 90, u 91, u 92, u 93, u 94, u 95, u 96, u 97, u 98, u 99, u 100, u 101, u 102, u 103, u 104, u 105, u 106, u 107, u 108, u 109, u 110, u 111, u 112, u 113, u 114, u 115, u 116, u 117, u 118, u 119, u 120, u 121, u 122, u 123, u 124, u 125, u 126, u 127, u 128, u 129, u 130, u 131, u 132, u 133, u 134, u 135, u 136, u 137, u 138, u 139, u 140, u 141, u 142, u 143, u 144, u 145, u 146, u 147, u 148, u 149, u 150, u 151, u 152, u 153, u 154, u 155, u 156, u 157, u 158, u 159, u 160, u 161, u 162, u 163, u 164, u 165, u 166, u 167, u 168, u 169, u 170, u 171, u 172, u 173, u 174, u 175, u 176, u 177, u 178, u 179, u 180, u 181, u 182, u 183, u 184, u 185, u 186, u 187, u 188, u 189, u 190, u 191, u 192, u 193, u 194, u 195, u 196, u 197, u 198, u 199, u 200, u 201, u 202, u 203, u 204, u 205, u 206, u 207, u 208, u 209, u 210, u 211, u 212, u 213, u 214, u 215, u 216, u 217, u 218, u 219, u 220, u 221, u 222, u 223, u 224, u 225, u 226, u 227, u 228, u 229, u 230, u 231, u 232, u 233, u 234, u 235, u 236, u 237, u 238, u 239, u 240, u 241, u 242, u 243, u 244, u 245, u 246, u 247, u 248, u 249, u 250, u 251, u 252, u 253, u 254, u 255, u 256, u 257, u 258, u 259, u 260, u 261, u 262], []⟩) Q0) ⟨#[u 0, u 1, u 2, u 3, u 4, u 5, u 6, .pointer (some ⟨L.q, 0, none⟩), u 8, u 9, u 10, u 11, u 12, u 13, u 14, u 15, u 16, u 17, u 18, u 19, u 20, u 21, u 22, u 23, u 24, u 25, u 26, u 27, u 28, u 29, u 30, u 31, u 32, u 33, u 34, u 35, u 36, u 37, u 38, u 39, u 40, u 41, u 42, .slice (some ⟨gb, go, none⟩) len cap, .int .i64 (len : Int), .int .i64 (j : Int), u 46, u 47, u 48, u 49, u 50, u 51, u 52, u 53, u 54, u 55, u 56, u 57, u 58, u 59, u 60, u 61, u 62, u 63, u 64, u 65, u 66, u 67, u 68, u 69, u 70, u 71, u 72, u 73, u 74, u 75, u 76, u 77, u 78, u 79, u 80, u 81, u 82, u 83, u 84, u 85, u 86, u 87, u 88, u 89, u 90, u 91, u 92, u 93, u 94, u 95, u 96, u 97, u 98, u 99, u 100, u 101, u 102, u 103, u 104, u 105, u 106, u 107, u 108, u 109, u 110, u 111, u 112, u 113, u 114, u 115, u 116, u 117, u 118, u 119, u 120, u 121, u 122, u 123, u 124, u 125, u 126, u 127, u 128, u 129, u 130, u 131, u 132, u 133, u 134, u 135, u 136, u 137, u 138, u 139, u 140, u 141, u 142, u 143, u 144, u 145, u 146, u 147, u 148, u 149, u 150, u 151, u 152, u 153, u 154, u 155, u 156, u 157, u 158, u 159, u 160, u 161, u 162, u 163, u 164, u 165, u 166, u 167, u 168, u 169, u 170, u 171, u 172, u 173, u 174, u 175, u 176, u 177, u 178, u 179, u 180, u 181, u 182, u 183, u 184, u 185, u 186, u 187, u 188, u 189, u 190, u 191, u 192, u 193, u 194, u 195, u 196, u 197, u 198, u 199, u 200, u 201, u 202, u 203, u 204, u 205, u 206, u 207, u 208, u 209, u 210, u 211, u 212, u 213, u 214, u 215, u 216, u 217, u 218, u 219, u 220, u 221, u 222, u 223, u 224, u 225, u 226, u 227, u 228, u 229, u 230, u 231, u 232, u 233, u 234, u 235, u 236, u 237, u 238, u 239, u 240, u 241, u 242, u 243, u 244, u 245, u 246, u 247, u 248, u 249, u 250, u 251, u 252, u 253, u 254, u 255, u 256, u 257, u 258, u 259, u 260, u 261, u 262], []⟩ wr := by
  have HO := Lib.hid hOw
  have HI := Lib.hid hI
  have HP := Lib.hid hP
  have HZO : Hid (opa opz = _) := Lib.hid opz_na
  have hj300 : j ≤ 300 := by omega
  clear hOw hI hP
  have HN := Lib.hid (St.new HO.out q)
  obtain ⟨W, hW⟩ : ∃ z, (wr.alloc (.cells (opa opz) 65)).setCells wr.heap.size 0 (opc q) = z := ⟨_, rfl⟩
  rw [hW] at HN
  rw [HZO.out] at HN hW
  have S0 := Lib.hid HN.out.2
  have HW0 := Lib.hid hW
  obtain ⟨c0, c1, c2, c3, c4, c5, c8⟩ := S0.out.cells
  have HMK := Lib.hid (own_marked S0.out.own q.n.b)
  have HDL := Lib.hid (own_deal S0.out.own)
  have HDP := Lib.hid (own_depth S0.out.own)
  clear hW
  conv => arg 2; whnf
  go_upto_region 9 with (first
    | ((with_reducible refine load_op q 47 gb (go + j * 29) ?_ hr ?_); ((rfl)))
    | ((with_reducible refine store_op q 10 48 wr.heap.size ?_ ?_ ?_ ?_); ((rfl)); ((rfl)); ((exact HN.out.1))))
  rw [HW0.out]
  clear hr HN
  go_upto_region 13 with (first
    | (go_at_call 34; ((with_reducible refine HMK.out.mono ?_); rintro e w4 ⟨rfl, rfl⟩))
    | (go_at_call 24; ((with_reducible refine HDL.out.mono ?_); rintro e w4 ⟨rfl, rfl⟩))
    | (go_at_call 36; ((with_reducible refine HDP.out.mono ?_); rintro e w4 ⟨rfl, rfl⟩)))
  have e0 : (q.kd == 0) = false := by simpa using hk0
  have e1 : (q.kd == 1) = false := by simpa using hk1
  have e2 : (q.kd == 2) = false := by simpa using hk2
  have e3 : (q.kd == 3) = false := by simpa using hk3
  have e4 : (q.kd == 4) = false := by simpa using hk4
  have HI2 := Lib.hid (HI.out.deal HI.out.dl.eD)
  have HD1 := Lib.hid (own_deal S0.out.own)
  have HC1 : Hid (Calls Tryz.prog 38 #[.pointer (some ⟨L.dg, 0, none⟩)] W fun e w' => e = .returned (.tuple #[.bool (de.eC k.d), .int .i64 (gE k.d)]) ∧ Own wb w' L P { k with d := de.eD k.d }) := Lib.hid
    ((de.end_any (own_at S0.out.own) HI.out.dl.d0 (Int.le_trans HI.out.dl.dn HI.out.dl.n8)).mono fun e w' hh => ⟨hh.1, (own_dl S0.out.own hh.2.1 hh.2.2).1⟩)
  clear hk0 hk1 hk2 hk3 hk4 hk5
  cases hc : de.eC k.d
  · rw [hc] at HC1
    clear hc
    go_upto_region 40 with (first
      | (go_at_call 24; ((with_reducible refine HD1.out.mono ?_); rintro e w4 ⟨rfl, rfl⟩))
      | (go_at_call 38; ((with_reducible refine HC1.out.mono ?_); rintro e w4 ⟨rfl, hw⟩; have S4 := Lib.hid hw; clear hw)))
    refine keeps_tail wb w4 L P { k with d := de.eD k.d } [] _ _ len j cap _ (some ⟨gb, go, none⟩) _ _ Q0 S4.out HI2.out (by intro x hx; cases hx) (OutN.nil wb w4).sl (by simp) hlt h300 ?hm (by assumption) _ (by assumption) _ ?_ ?_ ?_ ?_ ?_ ?_ ?_
    case hm =>
      show len - (j + 1) < len - (j : Int).toNat
      omega
    all_goals rfl
  · rw [hc] at HC1
    clear hc
    have HCL : Hid (∀ w4, Own wb w4 L P { k with d := de.eD k.d } → _) := Lib.hid fun w4 o => own_clear o
    have HI3 := Lib.hid HI2.out.clrS
    go_upto_region 40 with (first
      | (go_at_call 24; ((with_reducible refine HD1.out.mono ?_); rintro e w4 ⟨rfl, rfl⟩))
      | (go_at_call 38; ((with_reducible refine HC1.out.mono ?_); rintro e w4 ⟨rfl, hw⟩; have S4 := Lib.hid hw; clear hw))
      | (go_at_call 18; ((with_reducible refine (HCL.out _ S4.out).mono ?_); rintro e w5 ⟨rfl, hw, _⟩; have S5 := Lib.hid hw; clear hw)))
    refine keeps_tail wb w5 L P (clrS { k with d := de.eD k.d }) [] _ _ len j cap _ (some ⟨gb, go, none⟩) _ _ Q0 S5.out HI3.out (by intro x hx; cases hx) (OutN.nil wb w5).sl (by simp) hlt h300 ?hm (by assumption) _ (by assumption) _ ?_ ?_ ?_ ?_ ?_ ?_ ?_
    case hm =>
      show len - (j + 1) < len - (j : Int).toNat
      omega
    all_goals rfl
theorem keeps_7 (P : Pm) (L : LL) (k : Nr) (j len cap gb go : Nat) (q : OpX) (wb wr : World) (u : Nat → Value) (Q0 : Exit → Act → World → Prop) (hP : Pok P) (hOw : Own wb wr L P k) (hI : Inv P k) (hlt : j < len) (h300 : len ≤ 300)
    (hr : wr.rangeAt gb (go + j * 29) (opc q)) (hx : 0 ≤ q.x ∧ q.x < 4294967296) (hst : 0 ≤ q.n.st) (hk7 : q.kd = 7) (hk0 : ¬ q.kd = 0) (hk1 : ¬ q.kd = 1) (hk2 : ¬ q.kd = 2) (hk3 : ¬ q.kd = 3) (hk4 : ¬ q.kd = 4) (hk5 : ¬ q.kd = 5) (hk6 : ¬ q.kd = 6) :
    Code.wp Tryz.prog keepsBody (Exit.then (fun a' w' => KI wb L P len cap (some ⟨gb, go, none⟩) a' w' ∧ Mk len a' < Mk len ⟨#[u 0, u 1, u 2, u 3, u 4, u 5, u 6, .pointer (some ⟨L.q, 0, none⟩), u 8, u 9, u 10, u 11, u 12, u 13, u 14, u 15, u 16, u 17, u 18, u 19, u 20, u 21, u 22, u 23, u 24, u 25, u 26, u 27, u 28, u 29, u 30, u 31, u 32, u 33, u 34, u 35, u 36, u 37, u 38, u 39, u 40, u 41, u 42, .slice (some ⟨gb, go, none⟩) len cap, .int .i64 (len : Int), .int .i64 (j : Int), u 46, u 47, u 48, u 49, u 50, u 51, u 52, u 53, u 54, u 55, u 56, u 57, u 58, u 59, u 60, u 61, u 62, u 63, u 64, u 65, u 66, u 67, u 68, u 69, u 70, u 71, u 72, u 73, u 74, u 75, u 76, u 77, u 78, u 79, u 80, u 81, u 82, u 83, u 84, u 85, u 86, u 87, u 88, u 89, u 90, u 91, u 92, u 93, u 94, u 95, u 96, u 97, u 98, u 99, u 100, u 101, u 102, u 103, u 104, u 105, u 106, u 107, u 108, u 109, u 110, u 111, u 112, u 113, u 114, u 115, u 116, u 117, u 118, u 119, u 120, u 121, u 122, u 123, u 124, u 125, u 126, u 127, u 128, u 129, u 130, u 131, u 132, u 133, u 134, u 135, u 136, u 137, u 138, u 139, u 140, u 141, u 142, u 143, u 144, u 145, u 146, u 147, u 148, u 149, u 150, u 151, u 152, u 153, u 154, u 155, u 156, u 157, u 158, u 159, u 160, u 161, u 162, u 163, u 164, u 165, u 166, u 167, u 168, u 169, u 170, u 171, u 172, u 173, u 174, u 175, u 176, u 177, u 178, u 179, u 180, u 181, u 182, u 183, u 184, u 185, u 186, u 187, u 188, u 189, u 190, u 191, u 192, u 193, u 194, u 195, u 196, u 197, u 198, u 199, u 200, u 201, u 202, u 203, u 204, u 205, u 206, u 207, u 208, u 209, u 210, u 211, u 212, u 213, u 214, u 215, u 216, u 217, u 218, u 219, u 220, u 221, u 222, u 223, u 224, u 225, u 226, u 227, u 228, u 229, u 230, u 231, u 232, u 233, u 234, u 235, u 236, u 237, u 238, u 239, u 240, u 241, u 242, u 243, u 244, u 245, u 246, u 247, u 248, u 249, u 250, u 251, u 252, u 253, u 254, u 255, u 256, u 257, u 258, u 259, u 260, u 261, u 262], []⟩) Q0) ⟨#[u 0, u 1, u 2, u 3, u 4, u 5, u 6, .pointer (some ⟨L.q, 0, none⟩), u 8, u 9, u 10, u 11, u 12, u 13, u 14, u 15, u 16, u 17, u 18, u 19, u 20, u 21, u 22, u 23, u 24, u 25, u 26, u 27, u 28, u 29, u 30, u 31, u 32, u 33, u 34, u 35, u 36, u 37, u 38, u 39, u 40, u 41, u 42, .slice (some ⟨gb, go, none⟩) len cap, .int .i64 (len : Int), .int .i64 (j : Int), u 46, u 47, u 48, u 49, u 50, u 51, u 52, u 53, u 54, u 55, u 56, u 57, u 58, u 59, u 60, u 61, u 62, u 63, u 64, u 65, u 66, u 67, u 68, u 69, u 70, u 71, u 72, u 73, u 74, u 75, u 76, u 77, u 78, u 79, u 80, u 81, u 82, u 83, u 84, u 85, u 86, u 87, u 88, u 89, u 90, u 91, u 92, u 93, u 94, u 95, u 96, u 97, u 98, u 99, u 100, u 101, u 102, u 103, u 104, u 105, u 106, u 107, u 108, u 109, u 110, u 111, u 112, u 113, u 114, u 115, u 116, u 117, u 118, u 119, u 120, u 121, u 122, u 123, u 124, u 125, u 126, u 127, u 128, u 129, u 130, u 131, u 132, u 133, u 134, u 135, u 136, u 137, u 138, u 139, u 140, u 141, u 142, u 143, u 144, u 145, u 146, u 147, u 148, u 149, u 150, u 151, u 152, u 153, u 154, u 155, u 156, u 157, u 158, u 159, u 160, u 161, u 162, u 163, u 164, u 165, u 166, u 167, u 168, u 169, u 170, u 171, u 172, u 173, u 174, u 175, u 176, u 177, u 178, u 179, u 180, u 181, u 182, u 183, u 184, u 185, u 186, u 187, u 188, u 189, u 190, u 191, u 192, u 193, u 194, u 195, u 196, u 197, u 198, u 199, u 200, u 201, u 202, u 203, u 204, u 205, u 206, u 207, u 208, u 209, u 210, u 211, u 212, u 213, u 214, u 215, u 216, u 217, u 218, u 219, u 220, u 221, u 222, u 223, u 224, u 225, u 226, u 227, u 228, u 229, u 230, u 231, u 232, u 233, u 234, u 235, u 236, u 237, u 238, u 239, u 240, u 241, u 242, u 243, u 244, u 245, u 246, u 247, u 248, u 249, u 250, u 251, u 252, u 253, u 254, u 255, u 256, u 257, u 258, u 259, u 260, u 261, u 262], []⟩ wr := by
  have HO := Lib.hid hOw
  have HI := Lib.hid hI
  have HP := Lib.hid hP
  have HZO : Hid (opa opz = _) := Lib.hid opz_na
  have hj300 : j ≤ 300 := by omega
  clear hOw hI hP
  have HN := Lib.hid (St.new HO.out q)
  obtain ⟨W, hW⟩ : ∃ z, (wr.alloc (.cells (opa opz) 65)).setCells wr.heap.size 0 (opc q) = z := ⟨_, rfl⟩
  rw [hW] at HN
  rw [HZO.out] at HN hW
  have S0 := Lib.hid HN.out.2
  have HW0 := Lib.hid hW
  obtain ⟨c0, c1, c2, c3, c4, c5, c8⟩ := S0.out.cells
  have HMK := Lib.hid (own_marked S0.out.own q.n.b)
  have HDL := Lib.hid (own_deal S0.out.own)
  have HDP := Lib.hid (own_depth S0.out.own)
  clear hW
  conv => arg 2; whnf
  go_upto_region 9 with (first
    | ((with_reducible refine load_op q 47 gb (go + j * 29) ?_ hr ?_); ((rfl)))
    | ((with_reducible refine store_op q 10 48 wr.heap.size ?_ ?_ ?_ ?_); ((rfl)); ((rfl)); ((exact HN.out.1))))
  rw [HW0.out]
  clear hr HN
  go_upto_region 13 with (first
    | (go_at_call 34; ((with_reducible refine HMK.out.mono ?_); rintro e w4 ⟨rfl, rfl⟩))
    | (go_at_call 24; ((with_reducible refine HDL.out.mono ?_); rintro e w4 ⟨rfl, rfl⟩))
    | (go_at_call 36; ((with_reducible refine HDP.out.mono ?_); rintro e w4 ⟨rfl, rfl⟩)))
  have e0 : (q.kd == 0) = false := by simpa using hk0
  have e1 : (q.kd == 1) = false := by simpa using hk1
  have e2 : (q.kd == 2) = false := by simpa using hk2
  have e3 : (q.kd == 3) = false := by simpa using hk3
  have e4 : (q.kd == 4) = false := by simpa using hk4
  have e5 : (q.kd == 5) = false := by simpa using hk5
  have e6 : (q.kd == 6) = false := by simpa using hk6
  have HI2 := Lib.hid (HI.out.deal HI.out.dl.oD)
  have HD1 := Lib.hid (own_deal S0.out.own)
  obtain ⟨sv, hsv⟩ : ∃ z, de.oS k.d = z := ⟨_, rfl⟩
  have HC1 : Hid (Calls Tryz.prog 40 #[.pointer (some ⟨L.dg, 0, none⟩)] W fun e w' => e = .returned (.tuple #[.agg (de.sa sv), .int .u32 (de.oC k.d), .int .i64 (de.oE k.d)]) ∧ Own wb w' L P { k with d := de.oD k.d }) := Lib.hid (by
    rw [← hsv]
    exact (de.over_any (own_at S0.out.own)).mono fun e w' hh => ⟨hh.1, (own_dl S0.out.own hh.2.1 hh.2.2).1⟩)
  clear hk0 hk1 hk2 hk3 hk4 hk5 hk6 hk7 hsv
  have hoe : de.oE k.d = 0 ∨ de.oE k.d = 8 := by unfold de.oE; split <;> simp
  rcases hoe with hc | hc
  · rw [hc] at HC1
    clear hc
    have HCL : Hid (∀ w4, Own wb w4 L P { k with d := de.oD k.d } → _) := Lib.hid fun w4 o => own_clear o
    have HI3 := Lib.hid HI2.out.clrS
    go_upto_region 40 with (first
      | (go_at_call 24; ((with_reducible refine HD1.out.mono ?_); rintro e w4 ⟨rfl, rfl⟩))
      | (go_at_call 40; ((with_reducible refine HC1.out.mono ?_); rintro e w4 ⟨rfl, hw⟩; have S4 := Lib.hid (hw.grown (grown_alloc (grown_refl _ none) (.cells (de.sa sv) 76))); clear hw))
      | ((with_reducible refine de.store_svN sv _ 23 210 ?_ ?_ ?_ ?_); ((rfl)); ((rfl)); ((rfl)))
      | (go_at_call 18; ((with_reducible refine (HCL.out _ S4.out).mono ?_); rintro e w5 ⟨rfl, hw, _⟩; have S5 := Lib.hid hw; clear hw)))
    refine keeps_tail wb w5 L P (clrS { k with d := de.oD k.d }) [] _ _ len j cap _ (some ⟨gb, go, none⟩) _ _ Q0 S5.out HI3.out (by intro x hx; cases hx) (OutN.nil wb w5).sl (by simp) hlt h300 ?hm (by assumption) _ (by assumption) _ ?_ ?_ ?_ ?_ ?_ ?_ ?_
    case hm =>
      show len - (j + 1) < len - (j : Int).toNat
      omega
    all_goals rfl
  · rw [hc] at HC1
    clear hc
    go_upto_region 40 with (first
      | (go_at_call 24; ((with_reducible refine HD1.out.mono ?_); rintro e w4 ⟨rfl, rfl⟩))
      | (go_at_call 40; ((with_reducible refine HC1.out.mono ?_); rintro e w4 ⟨rfl, hw⟩; have S4 := Lib.hid (hw.grown (grown_alloc (grown_refl _ none) (.cells (de.sa sv) 76))); clear hw))
      | ((with_reducible refine de.store_svN sv _ 23 210 ?_ ?_ ?_ ?_); ((rfl)); ((rfl)); ((rfl))))
    refine keeps_tail wb _ L P { k with d := de.oD k.d } [] _ _ len j cap _ (some ⟨gb, go, none⟩) _ _ Q0 S4.out HI2.out (by intro x hx; cases hx) (OutN.nil wb _).sl (by simp) hlt h300 ?hm (by assumption) _ (by assumption) _ ?_ ?_ ?_ ?_ ?_ ?_ ?_
    case hm =>
      show len - (j + 1) < len - (j : Int).toNat
      omega
    all_goals rfl
end Go.Proofs.YtinogiidiommkaaGreatDoor.nl
