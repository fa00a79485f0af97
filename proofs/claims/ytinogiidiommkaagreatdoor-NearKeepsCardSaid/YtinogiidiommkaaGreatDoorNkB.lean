/-
  Rounds of the law NearKeeps: loads, stores, other calls. Conditions: the tables of bounds and of kinds lie in their variables as the program's text has them; that the script lies where the argument says.
-/
import Derived.Test.YtinogiidiommkaaGreatDoorNkA
namespace Go.Proofs.YtinogiidiommkaaGreatDoor.nl
open Go Go.ChangeShapes Go.WideShapes Go.ChangeAt Go.RowKit Go.Shelf
open Go.Proofs.YtinogiidiommkaaGreatDoor.nr
open Go.Proofs.YtinogiidiommkaaGreatDoor.tt (OpX opc OpsAt cfg_at CfgAt Cfg Nt na nt zn bare zd fits row tyne lt_of U Tab TabK grown_refl grown_trans grown_alloc grown_setCells grown_drew grown_drewN yes Sl Next flat)
open Go.Proofs.YtinogiidiommkaaGreatDoor.kk (Ln St zl la ln cfind cdrop cuse cgoes cwrite cturn cput setAt setOf live fF Shp Cac Kept)
open Go.Proofs.YtinogiidiommkaaGreatDoor.bk (Bk rem kills puts putE fd fl Nd Rg dead fresh BkAt)
open Go.Proofs.YtinogiidiommkaaGreatDoor.mrk (Ms rdS wrS meets addE Dom MkAt)
open Go.Proofs.YtinogiidiommkaaGreatDoor.de (Dl sT gE rF aD LAt)
open Go.Proofs.YtinogiidiommkaaGreatDoor.oo (ref)
open Go.Proofs.YtinogiidiommkaaGreatDoor.gl
set_option linter.unusedVariables false
set_option maxRecDepth 1000000
set_option maxHeartbeats 16000000

theorem keeps_x (P : Pm) (L : LL) (k : Nr) (j len cap gb go : Nat) (q : OpX) (wb wr : World) (u : Nat → Value) (Q0 : Exit → Act → World → Prop) (hP : Pok P) (hOw : Own wb wr L P k) (hI : Inv P k) (hlt : j < len) (h300 : len ≤ 300)
    (hr : wr.rangeAt gb (go + j * 29) (opc q)) (hx : 0 ≤ q.x ∧ q.x < 4294967296) (hst : 0 ≤ q.n.st) (hk0 : ¬ q.kd = 0) (hk1 : ¬ q.kd = 1) (hk2 : ¬ q.kd = 2) (hk3 : ¬ q.kd = 3) (hk4 : ¬ q.kd = 4) (hk5 : ¬ q.kd = 5) (hk6 : ¬ q.kd = 6) (hk7 : ¬ q.kd = 7) :
    Code.wp Tryz.prog keepsBody (Exit.then (fun a' w' => KI wb L P len cap (some ⟨gb, go, none⟩) a' w' ∧ Mk len a' < Mk len ⟨#[u 0, u 1, u 2, u 3, u 4, u 5, u 6, .pointer (some ⟨L.q, 0, none⟩), u 8, u 9, u 10, u 11, u 12, u 13, u 14, u 15, u 16, u 17, u 18, u 19, u 20, u 21, u 22, u 23, u 24, u 25, u 26, u 27, u 28, u 29, u 30, u 31, u 32, u 33, u 34, u 35, u 36, u 37, u 38, u 39, u 40, u 41, u 42, .slice (some ⟨gb, go, none⟩) len cap, .int .i64 (len : Int), .int .i64 (j : Int), u 46, u 47, u 48, u 49, u 50, u 51, u 52, u 53, u 54, u 55, u 56, u 57, u 58, u 59, u 60, u 61, u 62, u 63, u 64, u 65, u 66, u 67, u 68, u 69, u 70, u 71, u 72, u 73, u 74, u 75, u 76, u 77, u 78, u 79, u 80, u 81, u 82, u 83, u 84, u 85, u 86, u 87, u 88, u 89, u 90, u 91, u 92, u 93, u 94, u 95, u 96, u 97, u 98, u 99, u 100, u 101, u 102, u 103, u 104, u 105, u 106, u 107, u 108, u 109, u 110, u 111, u 112, u 113, u 114, u 115, u 116, u 117, u 118, u 119, u 120, u 121, u 122, u 123, u 124, u 125, u 126, u 127, u 128, u 129, u 130, u 131, u 132, u 133, u 134, u 135, u 136, u 137, u 138, u 139, u 140, u 141, u 142, u 143, u 144, u 145, u 146, u 147, u 148, u 149, u 150, u 151, u 152, u 153, u 154, u 155, u 156, u 157, u 158, u 159, u 160, u 161, u 162, u 163, u 164, u 165, u 166, u 167, u 168, u 169, u 170, u 171, u 172, u 173, u 174, u 175, u 176, u 177, u 178, u 179, u 180, u 181, u 182, u 183, u 184, u 185, u 186, u 187, u 188, u 189, u 190, u 191, u 192, u 193, u 194, u 195, u 196, u 197, u 198, u 199, u 200, u 201, u 202, u 203, u 204, u 205, u 206, u 207, u 208, u 209, u 210, u 211, u 212, u 213, u 214, u 215, u 216, u 217, u 218, u 219, u 220, u 221, u 222, u 223, u 224, u 225, u 226, u 227, u 228, u 229, u 230, u 231, u 232, u 233, u 234, u 235, u 236, u 237, u 238, u 239, u 240, u 241, u 242, u 243, u 244, u 245, u 246, u 247, u 248, u 249, u 250, u 251, u 252, u 253, u 254, u 255, u 256, u 257, u 258, u 259, u 260, u 261, u 262], []⟩) Q0) ⟨#[u 0, u 1, u 2, u 3, u 4, u 5, u 6, .pointer (some ⟨L.q, 0, none⟩), u 8, u 9, u 10, u 11, u 12, u 13, u 14, u 15, u 16, u 17, u 18, u 19, u 20, u 21, u 22, u 23, u 24, u 25, u 26, u 27, u 28, u 29, u 30, u 31, u 32, u 33, u 34, u 35, u 36, u 37, u 38, u 39, u 40, u 41, u 42, .slice (some ⟨gb, go, none⟩) len cap, .int .i64 (len : Int), .int .i64 (j : Int), u 46, u 47, u 48, u 49, u 50, u 51, u 52, u 53, u 54, u 55, u 56, u 57, u 58, u 59, u 60, u 61, u 62, u 63, u 64, u 65, u 66, u 67, u 68, u 69, u 70, u 71, u 72, u 73, u 74, u 75, u 76, u 77, u 78, u 79, u 80, u 81, u 82, u 83, u 84, u 85, u 86, u 87, u 88, u 89, u 90, u 91, u 92, u 93, u 94, u 95, u 96, u 97, u 98, u 99, u 100, u 101, u 102, u 103, u 104, u 105, u 106, u 107, u 108, u 109, u 110, u 111, u 112, u 113, u 114, u 115, u 116, u 117, u 118, u 119, u 120, u 121, u 122, u 123, u 124, u 125, u 126, u 127, u 128, u 129, u 130, u 131, u 132, u 133, u 134, u 135, u 136, u 137, u 138, u 139, u 140, u 141, u 142, u 143, u 144, u 145, u 146, u 147, u 148, u 149, u 150, u 151, u 152, u 153, u 154, u 155, u 156, u 157, u 158, u 159, u 160, u 161, u 162, u 163, u 164, u 165, u 166, u 167, u 168, u 169, u 170, u 171, u 172, u 173, u 174, u 175, u 176, u 177, u 178, u 179, u 180, u 181, u 182, u 183, u 184, u 185, u 186, u 187, u 188, u 189, u 190, u 191, u 192, u 193, u 194, u 195, u 196, u 197, u 198, u 199, u 200, u 201, u 202, u 203, u 204, u 205, u 206, u 207, u 208, u 209, u 210, u 211, u 212, u 213, u 214, u 215, u 216, u 217, u 218, u 219, u 220, u 221, u 222, u 223, u 224, u 225, u 226, u 227, u 228, u 229, u 230, u 231, u 232, u 233, u 234, u 235, u 236, u 237, u 238, u 239, u 240, u 241, u 242, u 243, u 244, u 245, u 246, u 247, u 248, u 249, u 250, u 251, u 252, u 253, u 254, u 255, u 256, u 257, u 258, u 259, u 260, u 261, u 262], []⟩ wr := by
  have HO := Lib.hid hOw
  have HI := Lib.hid hI
  have HP := Lib.hid hP
  have HZO : Hid (opa opz = _) := Lib.hid opz_na
  have hj300 : j ≤ 300 := by omega
  clear hOw hI hP
  have HN := Lib.hid (St.new HO.out q)
  obtain ⟨W, hW⟩ : ∃ z, (wr.alloc (.cells (opa opz) 65)).setCells wr.heap.size 0 (opc q) = z := ⟨_, rfl⟩
  rw [hW] at HN
  rw [HZO.out] at HN hW
  have S0 := Lib.hid HN.out.2
  have HW0 := Lib.hid hW
  obtain ⟨c0, c1, c2, c3, c4, c5, c8⟩ := S0.out.cells
  have HMK := Lib.hid (own_marked S0.out.own q.n.b)
  have HDL := Lib.hid (own_deal S0.out.own)
  have HDP := Lib.hid (own_depth S0.out.own)
  clear hW
  conv => arg 2; whnf
  go_upto_region 9 with (first
    | ((with_reducible refine load_op q 47 gb (go + j * 29) ?_ hr ?_); ((rfl)))
    | ((with_reducible refine store_op q 10 48 wr.heap.size ?_ ?_ ?_ ?_); ((rfl)); ((rfl)); ((exact HN.out.1))))
  rw [HW0.out]
  clear hr HN
  go_upto_region 13 with (first
    | (go_at_call 34; ((with_reducible refine HMK.out.mono ?_); rintro e w4 ⟨rfl, rfl⟩))
    | (go_at_call 24; ((with_reducible refine HDL.out.mono ?_); rintro e w4 ⟨rfl, rfl⟩))
    | (go_at_call 36; ((with_reducible refine HDP.out.mono ?_); rintro e w4 ⟨rfl, rfl⟩)))
  have e0 : (q.kd == 0) = false := by simpa using hk0
  have e1 : (q.kd == 1) = false := by simpa using hk1
  have e2 : (q.kd == 2) = false := by simpa using hk2
  have e3 : (q.kd == 3) = false := by simpa using hk3
  have e4 : (q.kd == 4) = false := by simpa using hk4
  have e5 : (q.kd == 5) = false := by simpa using hk5
  have e6 : (q.kd == 6) = false := by simpa using hk6
  have e7 : (q.kd == 7) = false := by simpa using hk7
  clear hk0 hk1 hk2 hk3 hk4 hk5 hk6 hk7
  go_upto_region 40 with fail
  refine keeps_tail wb W L P k [] _ _ len j cap _ (some ⟨gb, go, none⟩) _ _ Q0 S0.out.own HI.out (by intro x hx; cases hx) (OutN.nil W W).sl (by simp) hlt h300 ?hm (by assumption) _ (by assumption) _ ?_ ?_ ?_ ?_ ?_ ?_ ?_
  case hm =>
    show len - (j + 1) < len - (j : Int).toNat
    omega
  all_goals rfl
theorem keeps_1 (P : Pm) (L : LL) (k : Nr) (j len cap gb go : Nat) (q : OpX) (wb wr : World) (u : Nat → Value) (Q0 : Exit → Act → World → Prop) (hP : Pok P) (hOw : Own wb wr L P k) (hI : Inv P k) (hlt : j < len) (h300 : len ≤ 300)
    (hr : wr.rangeAt gb (go + j * 29) (opc q)) (hx : 0 ≤ q.x ∧ q.x < 4294967296) (hst : 0 ≤ q.n.st) (hk1 : q.kd = 1) (hk0 : ¬ q.kd = 0) :
    Code.wp Tryz.prog keepsBody (Exit.then (fun a' w' => KI wb L P len cap (some ⟨gb, go, none⟩) a' w' ∧ Mk len a' < Mk len ⟨#[u 0, u 1, u 2, u 3, u 4, u 5, u 6, .pointer (some ⟨L.q, 0, none⟩), u 8, u 9, u 10, u 11, u 12, u 13, u 14, u 15, u 16, u 17, u 18, u 19, u 20, u 21, u 22, u 23, u 24, u 25, u 26, u 27, u 28, u 29, u 30, u 31, u 32, u 33, u 34, u 35, u 36, u 37, u 38, u 39, u 40, u 41, u 42, .slice (some ⟨gb, go, none⟩) len cap, .int .i64 (len : Int), .int .i64 (j : Int), u 46, u 47, u 48, u 49, u 50, u 51, u 52, u 53, u 54, u 55, u 56, u 57, u 58, u 59, u 60, u 61, u 62, u 63, u 64, u 65, u 66, u 67, u 68, u 69, u 70, u 71, u 72, u 73, u 74, u 75, u 76, u 77, u 78, u 79, u 80, u 81, u 82, u 83, u 84, u 85, u 86, u 87, u 88, u 89, u 90, u 91, u 92, u 93, u 94, u 95, u 96, u 97, u 98, u 99, u 100, u 101, u 102, u 103, u 104, u 105, u 106, u 107, u 108, u 109, u 110, u 111, u 112, u 113, u 114, u 115, u 116, u 117, u 118, u 119, u 120, u 121, u 122, u 123, u 124, u 125, u 126, u 127, u 128, u 129, u 130, u 131, u 132, u 133, u 134, u 135, u 136, u 137, u 138, u 139, u 140, u 141, u 142, u 143, u 144, u 145, u 146, u 147, u 148, u 149, u 150, u 151, u 152, u 153, u 154, u 155, u 156, u 157, u 158, u 159, u 160, u 161, u 162, u 163, u 164, u 165, u 166, u 167, u 168, u 169, u 170, u 171, u 172, u 173, u 174, u 175, u 176, u 177, u 178, u 179, u 180, u 181, u 182, u 183, u 184, u 185, u 186, u 187, u 188, u 189, u 190, u 191, u 192, u 193, u 194, u 195, u 196, u 197, u 198, u 199, u 200, u 201, u 202, u 203, u 204, u 205, u 206, u 207, u 208, u 209, u 210, u 211, u 212, u 213, u 214, u 215, u 216, u 217, u 218, u 219, u 220, u 221, u 222, u 223, u 224, u 225, u 226, u 227, u 228, u 229, u 230, u 231, u 232, u 233, u 234, u 235, u 236, u 237, u 238, u 239, u 240, u 241, u 242, u 243, u 244, u 245, u 246, u 247, u 248, u 249, u 250, u 251, u 252, u 253, u 254, u 255, u 256, u 257, u 258, u 259, u 260, u 261, u 262], []⟩) Q0) ⟨#[u 0, u 1, u 2, u 3, u 4, u 5, u 6, .pointer (some ⟨L.q, 0, none⟩), u 8, u 9, u 10, u 11, u 12, u 13, u 14, u 15, u 16, u 17, u 18, u 19, u 20, u 21, u 22, u 23, u 24, u 25, u 26, u 27, u 28, u 29, u 30, u 31, u 32, u 33, u 34, u 35, u 36, u 37, u 38, u 39, u 40, u 41, u 42, .slice (some ⟨gb, go, none⟩) len cap, .int .i64 (len : Int), .int .i64 (j : Int), u 46, u 47, u 48, u 49, u 50, u 51, u 52, u 53, u 54, u 55, u 56, u 57, u 58, u 59, u 60, u 61, u 62, u 63, u 64, u 65, u 66, u 67, u 68, u 69, u 70, u 71, u 72, u 73, u 74, u 75, u 76, u 77, u 78, u 79, u 80, u 81, u 82, u 83, u 84, u 85, u 86, u 87, u 88, u 89, u 90, u 91, u 92, u 93, u 94, u 95, u 96, u 97, u 98, u 99, u 100, u 101, u 102, u 103, u 104, u 105, u 106, u 107, u 108, u 109, u 110, u 111, u 112, u 113, u 114, u 115, u 116, u 117, u 118, u 119, u 120, u 121, u 122, u 123, u 124, u 125, u 126, u 127, u 128, u 129, u 130, u 131, u 132, u 133, u 134, u 135, u 136, u 137, u 138, u 139, u 140, u 141, u 142, u 143, u 144, u 145, u 146, u 147, u 148, u 149, u 150, u 151, u 152, u 153, u 154, u 155, u 156, u 157, u 158, u 159, u 160, u 161, u 162, u 163, u 164, u 165, u 166, u 167, u 168, u 169, u 170, u 171, u 172, u 173, u 174, u 175, u 176, u 177, u 178, u 179, u 180, u 181, u 182, u 183, u 184, u 185, u 186, u 187, u 188, u 189, u 190, u 191, u 192, u 193, u 194, u 195, u 196, u 197, u 198, u 199, u 200, u 201, u 202, u 203, u 204, u 205, u 206, u 207, u 208, u 209, u 210, u 211, u 212, u 213, u 214, u 215, u 216, u 217, u 218, u 219, u 220, u 221, u 222, u 223, u 224, u 225, u 226, u 227, u 228, u 229, u 230, u 231, u 232, u 233, u 234, u 235, u 236, u 237, u 238, u 239, u 240, u 241, u 242, u 243, u 244, u 245, u 246, u 247, u 248, u 249, u 250, u 251, u 252, u 253, u 254, u 255, u 256, u 257, u 258, u 259, u 260, u 261, u 262], []⟩ wr := by
  have HO := Lib.hid hOw
  have HI := Lib.hid hI
  have HP := Lib.hid hP
  have HZO : Hid (opa opz = _) := Lib.hid opz_na
  have hj300 : j ≤ 300 := by omega
  clear hOw hI hP
  have HN := Lib.hid (St.new HO.out q)
  obtain ⟨W, hW⟩ : ∃ z, (wr.alloc (.cells (opa opz) 65)).setCells wr.heap.size 0 (opc q) = z := ⟨_, rfl⟩
  rw [hW] at HN
  rw [HZO.out] at HN hW
  have S0 := Lib.hid HN.out.2
  have HW0 := Lib.hid hW
  obtain ⟨c0, c1, c2, c3, c4, c5, c8⟩ := S0.out.cells
  have HMK := Lib.hid (own_marked S0.out.own q.n.b)
  have HDL := Lib.hid (own_deal S0.out.own)
  have HDP := Lib.hid (own_depth S0.out.own)
  clear hW
  conv => arg 2; whnf
  go_upto_region 9 with (first
    | ((with_reducible refine load_op q 47 gb (go + j * 29) ?_ hr ?_); ((rfl)))
    | ((with_reducible refine store_op q 10 48 wr.heap.size ?_ ?_ ?_ ?_); ((rfl)); ((rfl)); ((exact HN.out.1))))
  rw [HW0.out]
  clear hr HN
  go_upto_region 13 with (first
    | (go_at_call 34; ((with_reducible refine HMK.out.mono ?_); rintro e w4 ⟨rfl, rfl⟩))
    | (go_at_call 24; ((with_reducible refine HDL.out.mono ?_); rintro e w4 ⟨rfl, rfl⟩))
    | (go_at_call 36; ((with_reducible refine HDP.out.mono ?_); rintro e w4 ⟨rfl, rfl⟩)))
  have e0 : (q.kd == 0) = false := by simpa using hk0
  have HI2 := Lib.hid (HI.out.loadS HP.out q.b q.w)
  have HCW := Lib.hid (own_load S0.out.own q.b q.w)
  clear hk0 hk1
  go_upto_region 40 with (first
    | (go_at_call 19; ((with_reducible refine HCW.out.mono ?_); rintro e w4 ⟨rfl, hw, hf⟩; have S4 := Lib.hid (S0.out.far hw hf); clear hw hf)))
  refine keeps_tail wb w4 L P (loadS P k q.b q.w) [] _ _ len j cap _ (some ⟨gb, go, none⟩) _ _ Q0 S4.out.own HI2.out (by intro x hx; cases hx) (OutN.nil w4 w4).sl (by simp) hlt h300 ?hm (by assumption) _ (by assumption) _ ?_ ?_ ?_ ?_ ?_ ?_ ?_
  case hm =>
    show len - (j + 1) < len - (j : Int).toNat
    omega
  all_goals rfl
theorem keeps_2 (P : Pm) (L : LL) (k : Nr) (j len cap gb go : Nat) (q : OpX) (wb wr : World) (u : Nat → Value) (Q0 : Exit → Act → World → Prop) (hP : Pok P) (hOw : Own wb wr L P k) (hI : Inv P k) (hlt : j < len) (h300 : len ≤ 300)
    (hr : wr.rangeAt gb (go + j * 29) (opc q)) (hx : 0 ≤ q.x ∧ q.x < 4294967296) (hst : 0 ≤ q.n.st) (hk2 : q.kd = 2) (hk0 : ¬ q.kd = 0) (hk1 : ¬ q.kd = 1) :
    Code.wp Tryz.prog keepsBody (Exit.then (fun a' w' => KI wb L P len cap (some ⟨gb, go, none⟩) a' w' ∧ Mk len a' < Mk len ⟨#[u 0, u 1, u 2, u 3, u 4, u 5, u 6, .pointer (some ⟨L.q, 0, none⟩), u 8, u 9, u 10, u 11, u 12, u 13, u 14, u 15, u 16, u 17, u 18, u 19, u 20, u 21, u 22, u 23, u 24, u 25, u 26, u 27, u 28, u 29, u 30, u 31, u 32, u 33, u 34, u 35, u 36, u 37, u 38, u 39, u 40, u 41, u 42, .slice (some ⟨gb, go, none⟩) len cap, .int .i64 (len : Int), .int .i64 (j : Int), u 46, u 47, u 48, u 49, u 50, u 51, u 52, u 53, u 54, u 55, u 56, u 57, u 58, u 59, u 60, u 61, u 62, u 63, u 64, u 65, u 66, u 67, u 68, u 69, u 70, u 71, u 72, u 73, u 74, u 75, u 76, u 77, u 78, u 79, u 80, u 81, u 82, u 83, u 84, u 85, u 86, u 87, u 88, u 89, u 90, u 91, u 92, u 93, u 94, u 95, u 96, u 97, u 98, u 99, u 100, u 101, u 102, u 103, u 104, u 105, u 106, u 107, u 108, u 109, u 110, u 111, u 112, u 113, u 114, u 115, u 116, u 117, u 118, u 119, u 120, u 121, u 122, u 123, u 124, u 125, u 126, u 127, u 128, u 129, u 130, u 131, u 132, u 133, u 134, u 135, u 136, u 137, u 138, u 139, u 140, u 141, u 142, u 143, u 144, u 145, u 146, u 147, u 148, u 149, u 150, u 151, u 152, u 153, u 154, u 155, u 156, u 157, u 158, u 159, u 160, u 161, u 162, u 163, u 164, u 165, u 166, u 167, u 168, u 169, u 170, u 171, u 172, u 173, u 174, u 175, u 176, u 177, u 178, u 179, u 180, u 181, u 182, u 183, u 184, u 185, u 186, u 187, u 188, u 189, u 190, u 191, u 192, u 193, u 194, u 195, u 196, u 197, u 198, u 199, u 200, u 201, u 202, u 203, u 204, u 205, u 206, u 207, u 208, u 209, u 210, u 211, u 212, u 213, u 214, u 215, u 216, u 217, u 218, u 219, u 220, u 221, u 222, u 223, u 224, u 225, u 226, u 227, u 228, u 229, u 230, u 231, u 232, u 233, u 234, u 235, u 236, u 237, u 238, u 239, u 240, u 241, u 242, u 243, u 244, u 245, u 246, u 247, u 248, u 249, u 250, u 251, u 252, u 253, u 254, u 255, u 256, u 257, u 258, u 259, u 260, u 261, u 262], []⟩) Q0) ⟨#[u 0, u 1, u 2, u 3, u 4, u 5, u 6, .pointer (some ⟨L.q, 0, none⟩), u 8, u 9, u 10, u 11, u 12, u 13, u 14, u 15, u 16, u 17, u 18, u 19, u 20, u 21, u 22, u 23, u 24, u 25, u 26, u 27, u 28, u 29, u 30, u 31, u 32, u 33, u 34, u 35, u 36, u 37, u 38, u 39, u 40, u 41, u 42, .slice (some ⟨gb, go, none⟩) len cap, .int .i64 (len : Int), .int .i64 (j : Int), u 46, u 47, u 48, u 49, u 50, u 51, u 52, u 53, u 54, u 55, u 56, u 57, u 58, u 59, u 60, u 61, u 62, u 63, u 64, u 65, u 66, u 67, u 68, u 69, u 70, u 71, u 72, u 73, u 74, u 75, u 76, u 77, u 78, u 79, u 80, u 81, u 82, u 83, u 84, u 85, u 86, u 87, u 88, u 89, u 90, u 91, u 92, u 93, u 94, u 95, u 96, u 97, u 98, u 99, u 100, u 101, u 102, u 103, u 104, u 105, u 106, u 107, u 108, u 109, u 110, u 111, u 112, u 113, u 114, u 115, u 116, u 117, u 118, u 119, u 120, u 121, u 122, u 123, u 124, u 125, u 126, u 127, u 128, u 129, u 130, u 131, u 132, u 133, u 134, u 135, u 136, u 137, u 138, u 139, u 140, u 141, u 142, u 143, u 144, u 145, u 146, u 147, u 148, u 149, u 150, u 151, u 152, u 153, u 154, u 155, u 156, u 157, u 158, u 159, u 160, u 161, u 162, u 163, u 164, u 165, u 166, u 167, u 168, u 169, u 170, u 171, u 172, u 173, u 174, u 175, u 176, u 177, u 178, u 179, u 180, u 181, u 182, u 183, u 184, u 185, u 186, u 187, u 188, u 189, u 190, u 191, u 192, u 193, u 194, u 195, u 196, u 197, u 198, u 199, u 200, u 201, u 202, u 203, u 204, u 205, u 206, u 207, u 208, u 209, u 210, u 211, u 212, u 213, u 214, u 215, u 216, u 217, u 218, u 219, u 220, u 221, u 222, u 223, u 224, u 225, u 226, u 227, u 228, u 229, u 230, u 231, u 232, u 233, u 234, u 235, u 236, u 237, u 238, u 239, u 240, u 241, u 242, u 243, u 244, u 245, u 246, u 247, u 248, u 249, u 250, u 251, u 252, u 253, u 254, u 255, u 256, u 257, u 258, u 259, u 260, u 261, u 262], []⟩ wr := by
  have HO := Lib.hid hOw
  have HI := Lib.hid hI
  have HP := Lib.hid hP
  have HZO : Hid (opa opz = _) := Lib.hid opz_na
  have hj300 : j ≤ 300 := by omega
  clear hOw hI hP
  have HN := Lib.hid (St.new HO.out q)
  obtain ⟨W, hW⟩ : ∃ z, (wr.alloc (.cells (opa opz) 65)).setCells wr.heap.size 0 (opc q) = z := ⟨_, rfl⟩
  rw [hW] at HN
  rw [HZO.out] at HN hW
  have S0 := Lib.hid HN.out.2
  have HW0 := Lib.hid hW
  obtain ⟨c0, c1, c2, c3, c4, c5, c8⟩ := S0.out.cells
  have HMK := Lib.hid (own_marked S0.out.own q.n.b)
  have HDL := Lib.hid (own_deal S0.out.own)
  have HDP := Lib.hid (own_depth S0.out.own)
  clear hW
  conv => arg 2; whnf
  go_upto_region 9 with (first
    | ((with_reducible refine load_op q 47 gb (go + j * 29) ?_ hr ?_); ((rfl)))
    | ((with_reducible refine store_op q 10 48 wr.heap.size ?_ ?_ ?_ ?_); ((rfl)); ((rfl)); ((exact HN.out.1))))
  rw [HW0.out]
  clear hr HN
  go_upto_region 13 with (first
    | (go_at_call 34; ((with_reducible refine HMK.out.mono ?_); rintro e w4 ⟨rfl, rfl⟩))
    | (go_at_call 24; ((with_reducible refine HDL.out.mono ?_); rintro e w4 ⟨rfl, rfl⟩))
    | (go_at_call 36; ((with_reducible refine HDP.out.mono ?_); rintro e w4 ⟨rfl, rfl⟩)))
  have e0 : (q.kd == 0) = false := by simpa using hk0
  have e1 : (q.kd == 1) = false := by simpa using hk1
  have HI2 := Lib.hid (HI.out.storeS HP.out q.b q.w q.x)
  have HCW := Lib.hid (own_store S0.out.own q.b q.w q.x)
  clear hk0 hk1 hk2
  go_upto_region 40 with (first
    | (go_at_call 15; ((with_reducible refine HCW.out.mono ?_); rintro e w4 ⟨rfl, hw, hf⟩; have S4 := Lib.hid (S0.out.far hw hf); clear hw hf)))
  refine keeps_tail wb w4 L P (storeS P k q.b q.w q.x) [] _ _ len j cap _ (some ⟨gb, go, none⟩) _ _ Q0 S4.out.own HI2.out (by intro x hx; cases hx) (OutN.nil w4 w4).sl (by simp) hlt h300 ?hm (by assumption) _ (by assumption) _ ?_ ?_ ?_ ?_ ?_ ?_ ?_
  case hm =>
    show len - (j + 1) < len - (j : Int).toNat
    omega
  all_goals rfl
theorem askO_len (P : Pm) (k : Nr) (b : Int) (y : Bool) : (askO P k b y).length ≤ 65536 := by
  unfold askO
  split
  · split <;> simp
  · simp
theorem takeO_len (P : Pm) (k : Nr) (n : Nt) : (takeO P k n).length ≤ 65536 := by
  unfold takeO
  repeat' split
  all_goals simp
theorem ask_good (P : Pm) (k : Nr) (b : Int) (y : Bool) : Good (askS P k b y) (askO P k b y) := fun x hx => by
  obtain ⟨h1, h2⟩ := ask_sticks hx
  rw [(ask_ms b y).1]
  exact ⟨h1, fun h => (h2 h).elim⟩
theorem take_good {P : Pm} {k : Nr} (hP : Pok P) (I : Inv P k) (n : Nt) : Good (takeS P k n) (takeO P k n) := fun x hx => by
  obtain ⟨h1, h2⟩ := take_sticks hP I hx
  rw [take_ms, take_de]
  exact ⟨fun h => (h1 h).elim, h2⟩
theorem keeps_0 (P : Pm) (L : LL) (k : Nr) (j len cap gb go : Nat) (q : OpX) (wb wr : World) (u : Nat → Value) (Q0 : Exit → Act → World → Prop) (hP : Pok P) (hOw : Own wb wr L P k) (hI : Inv P k) (hlt : j < len) (h300 : len ≤ 300)
    (hr : wr.rangeAt gb (go + j * 29) (opc q)) (hx : 0 ≤ q.x ∧ q.x < 4294967296) (hst : 0 ≤ q.n.st) (hk0 : q.kd = 0) :
    Code.wp Tryz.prog keepsBody (Exit.then (fun a' w' => KI wb L P len cap (some ⟨gb, go, none⟩) a' w' ∧ Mk len a' < Mk len ⟨#[u 0, u 1, u 2, u 3, u 4, u 5, u 6, .pointer (some ⟨L.q, 0, none⟩), u 8, u 9, u 10, u 11, u 12, u 13, u 14, u 15, u 16, u 17, u 18, u 19, u 20, u 21, u 22, u 23, u 24, u 25, u 26, u 27, u 28, u 29, u 30, u 31, u 32, u 33, u 34, u 35, u 36, u 37, u 38, u 39, u 40, u 41, u 42, .slice (some ⟨gb, go, none⟩) len cap, .int .i64 (len : Int), .int .i64 (j : Int), u 46, u 47, u 48, u 49, u 50, u 51, u 52, u 53, u 54, u 55, u 56, u 57, u 58, u 59, u 60, u 61, u 62, u 63, u 64, u 65, u 66, u 67, u 68, u 69, u 70, u 71, u 72, u 73, u 74, u 75, u 76, u 77, u 78, u 79, u 80, u 81, u 82, u 83, u 84, u 85, u 86, u 87, u 88, u 89, u 90, u 91, u 92, u 93, u 94, u 95, u 96, u 97, u 98, u 99, u 100, u 101, u 102, u 103, u 104, u 105, u 106, u 107, u 108, u 109, u 110, u 111, u 112, u 113, u 114, u 115, u 116, u 117, u 118, u 119, u 120, u 121, u 122, u 123, u 124, u 125, u 126, u 127, u 128, u 129, u 130, u 131, u 132, u 133, u 134, u 135, u 136, u 137, u 138, u 139, u 140, u 141, u 142, u 143, u 144, u 145, u 146, u 147, u 148, u 149, u 150, u 151, u 152, u 153, u 154, u 155, u 156, u 157, u 158, u 159, u 160, u 161, u 162, u 163, u 164, u 165, u 166, u 167, u 168, u 169, u 170, u 171, u 172, u 173, u 174, u 175, u 176, u 177, u 178, u 179, u 180, u 181, u 182, u 183, u 184, u 185, u 186, u 187, u 188, u 189, u 190, u 191, u 192, u 193, u 194, u 195, u 196, u 197, u 198, u 199, u 200, u 201, u 202, u 203, u 204, u 205, u 206, u 207, u 208, u 209, u 210, u 211, u 212, u 213, u 214, u 215, u 216, u 217, u 218, u 219, u 220, u 221, u 222, u 223, u 224, u 225, u 226, u 227, u 228, u 229, u 230, u 231, u 232, u 233, u 234, u 235, u 236, u 237, u 238, u 239, u 240, u 241, u 242, u 243, u 244, u 245, u 246, u 247, u 248, u 249, u 250, u 251, u 252, u 253, u 254, u 255, u 256, u 257, u 258, u 259, u 260, u 261, u 262], []⟩) Q0) ⟨#[u 0, u 1, u 2, u 3, u 4, u 5, u 6, .pointer (some ⟨L.q, 0, none⟩), u 8, u 9, u 10, u 11, u 12, u 13, u 14, u 15, u 16, u 17, u 18, u 19, u 20, u 21, u 22, u 23, u 24, u 25, u 26, u 27, u 28, u 29, u 30, u 31, u 32, u 33, u 34, u 35, u 36, u 37, u 38, u 39, u 40, u 41, u 42, .slice (some ⟨gb, go, none⟩) len cap, .int .i64 (len : Int), .int .i64 (j : Int), u 46, u 47, u 48, u 49, u 50, u 51, u 52, u 53, u 54, u 55, u 56, u 57, u 58, u 59, u 60, u 61, u 62, u 63, u 64, u 65, u 66, u 67, u 68, u 69, u 70, u 71, u 72, u 73, u 74, u 75, u 76, u 77, u 78, u 79, u 80, u 81, u 82, u 83, u 84, u 85, u 86, u 87, u 88, u 89, u 90, u 91, u 92, u 93, u 94, u 95, u 96, u 97, u 98, u 99, u 100, u 101, u 102, u 103, u 104, u 105, u 106, u 107, u 108, u 109, u 110, u 111, u 112, u 113, u 114, u 115, u 116, u 117, u 118, u 119, u 120, u 121, u 122, u 123, u 124, u 125, u 126, u 127, u 128, u 129, u 130, u 131, u 132, u 133, u 134, u 135, u 136, u 137, u 138, u 139, u 140, u 141, u 142, u 143, u 144, u 145, u 146, u 147, u 148, u 149, u 150, u 151, u 152, u 153, u 154, u 155, u 156, u 157, u 158, u 159, u 160, u 161, u 162, u 163, u 164, u 165, u 166, u 167, u 168, u 169, u 170, u 171, u 172, u 173, u 174, u 175, u 176, u 177, u 178, u 179, u 180, u 181, u 182, u 183, u 184, u 185, u 186, u 187, u 188, u 189, u 190, u 191, u 192, u 193, u 194, u 195, u 196, u 197, u 198, u 199, u 200, u 201, u 202, u 203, u 204, u 205, u 206, u 207, u 208, u 209, u 210, u 211, u 212, u 213, u 214, u 215, u 216, u 217, u 218, u 219, u 220, u 221, u 222, u 223, u 224, u 225, u 226, u 227, u 228, u 229, u 230, u 231, u 232, u 233, u 234, u 235, u 236, u 237, u 238, u 239, u 240, u 241, u 242, u 243, u 244, u 245, u 246, u 247, u 248, u 249, u 250, u 251, u 252, u 253, u 254, u 255, u 256, u 257, u 258, u 259, u 260, u 261, u 262], []⟩ wr := by
  have HO := Lib.hid hOw
  have HI := Lib.hid hI
  have HP := Lib.hid hP
  have HZO : Hid (opa opz = _) := Lib.hid opz_na
  have hj300 : j ≤ 300 := by omega
  clear hOw hI hP
  have HN := Lib.hid (St.new HO.out q)
  obtain ⟨W, hW⟩ : ∃ z, (wr.alloc (.cells (opa opz) 65)).setCells wr.heap.size 0 (opc q) = z := ⟨_, rfl⟩
  rw [hW] at HN
  rw [HZO.out] at HN hW
  have S0 := Lib.hid HN.out.2
  have HW0 := Lib.hid hW
  obtain ⟨c0, c1, c2, c3, c4, c5, c8⟩ := S0.out.cells
  have HMK := Lib.hid (own_marked S0.out.own q.n.b)
  have HDL := Lib.hid (own_deal S0.out.own)
  have HDP := Lib.hid (own_depth S0.out.own)
  clear hW
  conv => arg 2; whnf
  go_upto_region 9 with (first
    | ((with_reducible refine load_op q 47 gb (go + j * 29) ?_ hr ?_); ((rfl)))
    | ((with_reducible refine store_op q 10 48 wr.heap.size ?_ ?_ ?_ ?_); ((rfl)); ((rfl)); ((exact HN.out.1))))
  rw [HW0.out]
  clear hr HN
  go_upto_region 13 with (first
    | (go_at_call 34; ((with_reducible refine HMK.out.mono ?_); rintro e w4 ⟨rfl, rfl⟩))
    | (go_at_call 24; ((with_reducible refine HDL.out.mono ?_); rintro e w4 ⟨rfl, rfl⟩))
    | (go_at_call 36; ((with_reducible refine HDP.out.mono ?_); rintro e w4 ⟨rfl, rfl⟩)))
  have HI2 := Lib.hid (HI.out.askS HP.out q.b q.y)
  have HCW := Lib.hid (own_ask S0.out.own HI.out q.b q.y)
  clear hk0
  go_upto_region 40 with (first
    | (go_at_call 16; ((with_reducible refine HCW.out.mono ?_); rintro e w4 ⟨s, rfl, ho, hw, hf⟩; have S4 := Lib.hid (S0.out.far hw hf); obtain ⟨ad4, cap4, rfl⟩ := ho.sl.form; have OS := Lib.hid ho; clear ho hw hf)))
  refine keeps_tail wb w4 L P (askS P k q.b q.y) (askO P k q.b q.y) _ _ len j cap _ (some ⟨gb, go, none⟩) _ _ Q0 S4.out.own HI2.out (ask_good P k q.b q.y) OS.out.sl (askO_len P k q.b q.y) hlt h300 ?hm (by assumption) _ (by assumption) _ ?_ ?_ ?_ ?_ ?_ ?_ ?_
  case hm =>
    show len - (j + 1) < len - (j : Int).toNat
    omega
  all_goals rfl
end Go.Proofs.YtinogiidiommkaaGreatDoor.nl
