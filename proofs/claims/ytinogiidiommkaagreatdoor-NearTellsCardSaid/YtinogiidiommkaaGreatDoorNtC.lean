/-
  Rounds of the law NearTells: asks, loads, other calls. Conditions: the tables of bounds and of kinds lie in their variables as the program's text has them; that the script lies where the argument says.
-/
import Derived.Test.YtinogiidiommkaaGreatDoorNtB
namespace Go.Proofs.YtinogiidiommkaaGreatDoor.nl
open Go Go.ChangeShapes Go.WideShapes Go.ChangeAt Go.RowKit Go.Shelf
open Go.Proofs.YtinogiidiommkaaGreatDoor.nr
open Go.Proofs.YtinogiidiommkaaGreatDoor.tt (OpX opc OpsAt cfg_at CfgAt Cfg Nt na nt zn bare zd fits row tyne lt_of U Tab TabK grown_refl grown_trans grown_alloc grown_setCells grown_drew grown_drewN yes Sl Next flat)
open Go.Proofs.YtinogiidiommkaaGreatDoor.kk (Ln St zl la ln cfind cdrop cuse cgoes cwrite cturn cput setAt setOf live fF Shp Cac Kept)
open Go.Proofs.YtinogiidiommkaaGreatDoor.bk (Bk rem kills puts putE fd fl Nd Rg dead fresh BkAt)
open Go.Proofs.YtinogiidiommkaaGreatDoor.mrk (Ms rdS wrS meets addE Dom MkAt)
open Go.Proofs.YtinogiidiommkaaGreatDoor.de (Dl sT gE rF aD LAt)
open Go.Proofs.YtinogiidiommkaaGreatDoor.oo (ref)
open Go.Proofs.YtinogiidiommkaaGreatDoor.gl
open Go.Proofs.YtinogiidiommkaaGreatDoor.tt (MapAt mput ik)
set_option linter.unusedVariables false
set_option linter.unusedSimpArgs false
set_option maxRecDepth 1000000
set_option maxHeartbeats 16000000

theorem askO_len' (P : Pm) (k : Nr) (b : Int) (y : Bool) : (askO P k b y).length ≤ 65536 := by
  unfold askO
  split
  · split <;> simp
  · simp
theorem takeO_len' (P : Pm) (k : Nr) (n : Nt) : (takeO P k n).length ≤ 65536 := by
  unfold takeO
  repeat' split
  all_goals simp
theorem tells_x (P : Pm) (L : LL) (k : Nr) (F : Int → List Int) (CB M j len cap gb go : Nat) (q : OpX) (wb wr : World) (u : Nat → Value) (Q0 : Exit → Act → World → Prop) (hP : Pok P) (hcf : ∀ w', wb.grownBy w' none → CfgAt w' CB P.c) (hM0 : wb.heap.size ≤ M) (hOw : Own wb wr L P k) (hI : Inv P k) (hH : Has wr M L F) (hTl : Tel P k F) (hlt : j < len) (h300 : len ≤ 300)
    (hr : wr.rangeAt gb (go + j * 29) (opc q)) (hx : 0 ≤ q.x ∧ q.x < 4294967296) (hst : 0 ≤ q.n.st) (hk0 : ¬ q.kd = 0) (hk2 : ¬ q.kd = 2) (hk3 : ¬ q.kd = 3) (hk1 : ¬ q.kd = 1) :
    Code.wp Tryz.prog tellsBody (Exit.then (fun a' w' => TI wb L P len cap (some ⟨gb, go, none⟩) CB M a' w' ∧ Mt len a' < Mt len ⟨#[u 0, .int .i64 P.core, u 2, .pointer (some ⟨CB, 0, none⟩), u 4, u 5, u 6, .pointer (some ⟨L.q, 0, none⟩), u 8, .map (some M), u 10, u 11, u 12, u 13, u 14, u 15, u 16, u 17, u 18, u 19, u 20, u 21, u 22, u 23, u 24, u 25, u 26, u 27, u 28, u 29, u 30, u 31, u 32, u 33, u 34, u 35, u 36, u 37, u 38, u 39, u 40, .slice (some ⟨gb, go, none⟩) len cap, .int .i64 (len : Int), .int .i64 (j : Int), u 44, u 45, u 46, u 47, u 48, u 49, u 50, u 51, u 52, u 53, u 54, u 55, u 56, u 57, u 58, u 59, u 60, u 61, u 62, u 63, u 64, u 65, u 66, u 67, u 68, u 69, u 70, u 71, u 72, u 73, u 74, u 75, u 76, u 77, u 78, u 79, u 80, u 81, u 82, u 83, u 84, u 85, u 86, u 87, u 88, u 89, u 90, u 91, u 92, u 93, u 94, u 95, u 96, u 97, u 98, u 99, u 100, u 101, u 102, u 103, u 104, u 105, u 106, u 107, u 108, u 109, u 110, u 111, u 112, u 113, u 114, u 115, u 116, u 117, u 118, u 119, u 120, u 121, u 122, u 123, u 124, u 125, u 126, u 127, u 128, u 129, u 130, u 131, u 132, u 133, u 134, u 135, u 136, u 137, u 138, u 139, u 140, u 141, u 142, u 143, u 144, u 145, u 146, u 147, u 148, u 149, u 150, u 151, u 152, u 153, u 154, u 155, u 156, u 157, u 158, u 159, u 160, u 161, u 162, u 163, u 164, u 165, u 166, u 167, u 168, u 169, u 170, u 171, u 172, u 173, u 174, u 175, u 176, u 177, u 178, u 179, u 180, u 181, u 182, u 183, u 184, u 185, u 186, u 187, u 188, u 189, u 190, u 191], []⟩) Q0) ⟨#[u 0, .int .i64 P.core, u 2, .pointer (some ⟨CB, 0, none⟩), u 4, u 5, u 6, .pointer (some ⟨L.q, 0, none⟩), u 8, .map (some M), u 10, u 11, u 12, u 13, u 14, u 15, u 16, u 17, u 18, u 19, u 20, u 21, u 22, u 23, u 24, u 25, u 26, u 27, u 28, u 29, u 30, u 31, u 32, u 33, u 34, u 35, u 36, u 37, u 38, u 39, u 40, .slice (some ⟨gb, go, none⟩) len cap, .int .i64 (len : Int), .int .i64 (j : Int), u 44, u 45, u 46, u 47, u 48, u 49, u 50, u 51, u 52, u 53, u 54, u 55, u 56, u 57, u 58, u 59, u 60, u 61, u 62, u 63, u 64, u 65, u 66, u 67, u 68, u 69, u 70, u 71, u 72, u 73, u 74, u 75, u 76, u 77, u 78, u 79, u 80, u 81, u 82, u 83, u 84, u 85, u 86, u 87, u 88, u 89, u 90, u 91, u 92, u 93, u 94, u 95, u 96, u 97, u 98, u 99, u 100, u 101, u 102, u 103, u 104, u 105, u 106, u 107, u 108, u 109, u 110, u 111, u 112, u 113, u 114, u 115, u 116, u 117, u 118, u 119, u 120, u 121, u 122, u 123, u 124, u 125, u 126, u 127, u 128, u 129, u 130, u 131, u 132, u 133, u 134, u 135, u 136, u 137, u 138, u 139, u 140, u 141, u 142, u 143, u 144, u 145, u 146, u 147, u 148, u 149, u 150, u 151, u 152, u 153, u 154, u 155, u 156, u 157, u 158, u 159, u 160, u 161, u 162, u 163, u 164, u 165, u 166, u 167, u 168, u 169, u 170, u 171, u 172, u 173, u 174, u 175, u 176, u 177, u 178, u 179, u 180, u 181, u 182, u 183, u 184, u 185, u 186, u 187, u 188, u 189, u 190, u 191], []⟩ wr := by
  have HO := Lib.hid hOw
  have HI := Lib.hid hI
  have HP := Lib.hid hP
  have HT := Lib.hid hTl
  have HCF := Lib.hid hcf
  have HZO : Hid (opa opz = _) := Lib.hid opz_na
  have hj300 : j ≤ 300 := by omega
  have HN := Lib.hid (St.new HO.out q)
  obtain ⟨W, hW⟩ : ∃ z, (wr.alloc (.cells (opa opz) 65)).setCells wr.heap.size 0 (opc q) = z := ⟨_, rfl⟩
  have HHW : Hid (Has W M L F) := Lib.hid (hH.grown (hW ▸ tt.grown_new (grown_alloc (grown_refl _ _) _) (Nat.le_refl _) (grown_setCells _ _ _ _)))
  clear hOw hI hP hTl hH hcf
  rw [hW] at HN
  rw [HZO.out] at HN hW
  have S0 := Lib.hid HN.out.2
  have HW0 := Lib.hid hW
  obtain ⟨c0, c1, c2, c3, c4, c5, c8⟩ := S0.out.cells
  clear hW
  conv => arg 2; whnf
  go_upto_region 10 with (first
    | ((with_reducible refine load_op q 45 gb (go + j * 29) ?_ hr ?_); ((rfl)))
    | ((with_reducible refine store_op q 11 46 wr.heap.size ?_ ?_ ?_ ?_); ((rfl)); ((rfl)); ((exact HN.out.1))))
  rw [HW0.out]
  clear hr HN
  go_upto_region 12 with fail
  have e0 : (q.kd == 0) = false := by simpa using hk0
  have e2 : (q.kd == 2) = false := by simpa using hk2
  have e3 : (q.kd == 3) = false := by simpa using hk3
  have e1 : (q.kd == 1) = false := by simpa using hk1
  clear hk0 hk1 hk2 hk3
  go_upto_region 29 with fail
  refine tells_tail wb W L P k F CB M len j cap _ (some ⟨gb, go, none⟩) _ _ Q0 [] _ _ HP.out HCF.out S0.out.own HI.out HHW.out HT.out hlt h300 ?hm (by intro x hx; cases hx) (OutN.nil wb W).sl (by simp) (by assumption) _ (by assumption) _ (by assumption) _ ?_ ?_ ?_ ?_ ?_ ?_ ?_ ?_ ?_ ?_
  case hm =>
    show len - (j + 1) < len - (j : Int).toNat
    omega
  all_goals rfl
theorem tells_0 (P : Pm) (L : LL) (k : Nr) (F : Int → List Int) (CB M j len cap gb go : Nat) (q : OpX) (wb wr : World) (u : Nat → Value) (Q0 : Exit → Act → World → Prop) (hP : Pok P) (hcf : ∀ w', wb.grownBy w' none → CfgAt w' CB P.c) (hM0 : wb.heap.size ≤ M) (hOw : Own wb wr L P k) (hI : Inv P k) (hH : Has wr M L F) (hTl : Tel P k F) (hlt : j < len) (h300 : len ≤ 300)
    (hr : wr.rangeAt gb (go + j * 29) (opc q)) (hx : 0 ≤ q.x ∧ q.x < 4294967296) (hst : 0 ≤ q.n.st) (hk0 : q.kd = 0) :
    Code.wp Tryz.prog tellsBody (Exit.then (fun a' w' => TI wb L P len cap (some ⟨gb, go, none⟩) CB M a' w' ∧ Mt len a' < Mt len ⟨#[u 0, .int .i64 P.core, u 2, .pointer (some ⟨CB, 0, none⟩), u 4, u 5, u 6, .pointer (some ⟨L.q, 0, none⟩), u 8, .map (some M), u 10, u 11, u 12, u 13, u 14, u 15, u 16, u 17, u 18, u 19, u 20, u 21, u 22, u 23, u 24, u 25, u 26, u 27, u 28, u 29, u 30, u 31, u 32, u 33, u 34, u 35, u 36, u 37, u 38, u 39, u 40, .slice (some ⟨gb, go, none⟩) len cap, .int .i64 (len : Int), .int .i64 (j : Int), u 44, u 45, u 46, u 47, u 48, u 49, u 50, u 51, u 52, u 53, u 54, u 55, u 56, u 57, u 58, u 59, u 60, u 61, u 62, u 63, u 64, u 65, u 66, u 67, u 68, u 69, u 70, u 71, u 72, u 73, u 74, u 75, u 76, u 77, u 78, u 79, u 80, u 81, u 82, u 83, u 84, u 85, u 86, u 87, u 88, u 89, u 90, u 91, u 92, u 93, u 94, u 95, u 96, u 97, u 98, u 99, u 100, u 101, u 102, u 103, u 104, u 105, u 106, u 107, u 108, u 109, u 110, u 111, u 112, u 113, u 114, u 115, u 116, u 117, u 118, u 119, u 120, u 121, u 122, u 123, u 124, u 125, u 126, u 127, u 128, u 129, u 130, u 131, u 132, u 133, u 134, u 135, u 136, u 137, u 138, u 139, u 140, u 141, u 142, u 143, u 144, u 145, u 146, u 147, u 148, u 149, u 150, u 151, u 152, u 153, u 154, u 155, u 156, u 157, u 158, u 159, u 160, u 161, u 162, u 163, u 164, u 165, u 166, u 167, u 168, u 169, u 170, u 171, u 172, u 173, u 174, u 175, u 176, u 177, u 178, u 179, u 180, u 181, u 182, u 183, u 184, u 185, u 186, u 187, u 188, u 189, u 190, u 191], []⟩) Q0) ⟨#[u 0, .int .i64 P.core, u 2, .pointer (some ⟨CB, 0, none⟩), u 4, u 5, u 6, .pointer (some ⟨L.q, 0, none⟩), u 8, .map (some M), u 10, u 11, u 12, u 13, u 14, u 15, u 16, u 17, u 18, u 19, u 20, u 21, u 22, u 23, u 24, u 25, u 26, u 27, u 28, u 29, u 30, u 31, u 32, u 33, u 34, u 35, u 36, u 37, u 38, u 39, u 40, .slice (some ⟨gb, go, none⟩) len cap, .int .i64 (len : Int), .int .i64 (j : Int), u 44, u 45, u 46, u 47, u 48, u 49, u 50, u 51, u 52, u 53, u 54, u 55, u 56, u 57, u 58, u 59, u 60, u 61, u 62, u 63, u 64, u 65, u 66, u 67, u 68, u 69, u 70, u 71, u 72, u 73, u 74, u 75, u 76, u 77, u 78, u 79, u 80, u 81, u 82, u 83, u 84, u 85, u 86, u 87, u 88, u 89, u 90, u 91, u 92, u 93, u 94, u 95, u 96, u 97, u 98, u 99, u 100, u 101, u 102, u 103, u 104, u 105, u 106, u 107, u 108, u 109, u 110, u 111, u 112, u 113, u 114, u 115, u 116, u 117, u 118, u 119, u 120, u 121, u 122, u 123, u 124, u 125, u 126, u 127, u 128, u 129, u 130, u 131, u 132, u 133, u 134, u 135, u 136, u 137, u 138, u 139, u 140, u 141, u 142, u 143, u 144, u 145, u 146, u 147, u 148, u 149, u 150, u 151, u 152, u 153, u 154, u 155, u 156, u 157, u 158, u 159, u 160, u 161, u 162, u 163, u 164, u 165, u 166, u 167, u 168, u 169, u 170, u 171, u 172, u 173, u 174, u 175, u 176, u 177, u 178, u 179, u 180, u 181, u 182, u 183, u 184, u 185, u 186, u 187, u 188, u 189, u 190, u 191], []⟩ wr := by
  have HO := Lib.hid hOw
  have HI := Lib.hid hI
  have HP := Lib.hid hP
  have HT := Lib.hid hTl
  have HCF := Lib.hid hcf
  have HZO : Hid (opa opz = _) := Lib.hid opz_na
  have hj300 : j ≤ 300 := by omega
  have HN := Lib.hid (St.new HO.out q)
  obtain ⟨W, hW⟩ : ∃ z, (wr.alloc (.cells (opa opz) 65)).setCells wr.heap.size 0 (opc q) = z := ⟨_, rfl⟩
  have HHW : Hid (Has W M L F) := Lib.hid (hH.grown (hW ▸ tt.grown_new (grown_alloc (grown_refl _ _) _) (Nat.le_refl _) (grown_setCells _ _ _ _)))
  clear hOw hI hP hTl hH hcf
  rw [hW] at HN
  rw [HZO.out] at HN hW
  have S0 := Lib.hid HN.out.2
  have HW0 := Lib.hid hW
  obtain ⟨c0, c1, c2, c3, c4, c5, c8⟩ := S0.out.cells
  clear hW
  conv => arg 2; whnf
  go_upto_region 10 with (first
    | ((with_reducible refine load_op q 45 gb (go + j * 29) ?_ hr ?_); ((rfl)))
    | ((with_reducible refine store_op q 11 46 wr.heap.size ?_ ?_ ?_ ?_); ((rfl)); ((rfl)); ((exact HN.out.1))))
  rw [HW0.out]
  clear hr HN
  go_upto_region 12 with fail
  have HI2 := Lib.hid (HI.out.askS HP.out q.b q.y)
  have HT2 := Lib.hid (HT.out.askS HP.out HI.out q.b q.y)
  have HSD : Hid (Said P F (askO P k q.b q.y)) := Lib.hid fun x hx => ⟨(ask_from hx).1, (ask_from hx).2, fun h => HT.out.askO HI.out hx h⟩
  have HCW := Lib.hid (own_ask S0.out.own HI.out q.b q.y)
  clear hk0
  go_upto_region 29 with (first
    | (go_at_call 16; ((with_reducible refine HCW.out.mono ?_); rintro e w4 ⟨s, rfl, ho, hw, hf⟩; have S4 := Lib.hid (S0.out.far hw hf); have H4 := Lib.hid (HHW.out.far hf); obtain ⟨ad4, cap4, rfl⟩ := ho.sl.form; have OS := Lib.hid ho; clear ho hw hf)))
  refine tells_tail wb w4 L P (askS P k q.b q.y) F CB M len j cap _ (some ⟨gb, go, none⟩) _ _ Q0 (askO P k q.b q.y) _ _ HP.out HCF.out S4.out.own HI2.out H4.out HT2.out hlt h300 ?hm HSD.out OS.out.sl (askO_len' P k q.b q.y) (by assumption) _ (by assumption) _ (by assumption) _ ?_ ?_ ?_ ?_ ?_ ?_ ?_ ?_ ?_ ?_
  case hm =>
    show len - (j + 1) < len - (j : Int).toNat
    omega
  all_goals rfl
end Go.Proofs.YtinogiidiommkaaGreatDoor.nl
