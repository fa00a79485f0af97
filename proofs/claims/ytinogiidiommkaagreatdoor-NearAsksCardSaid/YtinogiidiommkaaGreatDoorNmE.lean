/-
  Rounds of the law NearAsks: notes that arrive. Conditions: the tables of bounds and of kinds lie in their variables as the program's text has them; that the script lies where the argument says.
-/
import Derived.Test.YtinogiidiommkaaGreatDoorNmA
namespace Go.Proofs.YtinogiidiommkaaGreatDoor.nl
open Go Go.ChangeShapes Go.WideShapes Go.ChangeAt Go.RowKit Go.Shelf
open Go.Proofs.YtinogiidiommkaaGreatDoor.nr
open Go.Proofs.YtinogiidiommkaaGreatDoor.tt (OpX opc OpsAt cfg_at CfgAt Cfg Nt na nt zn bare zd fits row tyne lt_of U Tab TabK grown_refl grown_trans grown_alloc grown_setCells grown_drew grown_drewN yes Sl Next flat)
open Go.Proofs.YtinogiidiommkaaGreatDoor.kk (Ln St zl la ln cfind cdrop cuse cgoes cwrite cturn cput setAt setOf live fF Shp Cac Kept)
open Go.Proofs.YtinogiidiommkaaGreatDoor.bk (Bk rem kills puts putE fd fl Nd Rg dead fresh BkAt)
open Go.Proofs.YtinogiidiommkaaGreatDoor.mrk (Ms rdS wrS meets addE Dom MkAt)
open Go.Proofs.YtinogiidiommkaaGreatDoor.de (Dl sT gE rF aD LAt)
open Go.Proofs.YtinogiidiommkaaGreatDoor.oo (ref)
set_option linter.unusedVariables false
set_option maxRecDepth 1000000
set_option maxHeartbeats 16000000

theorem asks_3a (P : Pm) (L : LL) (k : Nr) (j len cap gb go : Nat) (q : OpX) (wb wr : World) (u : Nat → Value) (Q0 : Exit → Act → World → Prop) (hP : Pok P) (hOw : Own wb wr L P k) (hI : Inv P k) (hlt : j < len) (h300 : len ≤ 300)
    (hr : wr.rangeAt gb (go + j * 29) (opc q)) (hx : 0 ≤ q.x ∧ q.x < 4294967296) (hst : 0 ≤ q.n.st) (hk3 : q.kd = 3) (hk0 : ¬ q.kd = 0) (hk1 : ¬ q.kd = 1) (hk2 : ¬ q.kd = 2) (hw1 : (takeS P k q.n).wt = k.wt) (hw2 : (takeS P k q.n).ask = k.ask) (hwt : k.wt = false) :
    Code.wp Tryz.prog asksBody (Exit.then (fun a' w' => AI wb L P len cap (some ⟨gb, go, none⟩) a' w' ∧ Mu len a' < Mu len ⟨#[u 0, u 1, u 2, u 3, u 4, u 5, u 6, .pointer (some ⟨L.q, 0, none⟩), u 8, u 9, u 10, u 11, u 12, u 13, u 14, u 15, u 16, u 17, u 18, u 19, u 20, u 21, u 22, u 23, u 24, u 25, u 26, u 27, u 28, u 29, u 30, u 31, u 32, u 33, u 34, u 35, u 36, u 37, .slice (some ⟨gb, go, none⟩) len cap, .int .i64 (len : Int), .int .i64 (j : Int), u 41, u 42, u 43, u 44, u 45, u 46, u 47, u 48, u 49, u 50, u 51, u 52, u 53, u 54, u 55, u 56, u 57, u 58, u 59, u 60, u 61, u 62, u 63, u 64, u 65, u 66, u 67, u 68, u 69, u 70, u 71, u 72, u 73, u 74, u 75, u 76, u 77, u 78, u 79, u 80, u 81, u 82, u 83, u 84, u 85, u 86, u 87, u 88, u 89, u 90, u 91, u 92, u 93, u 94, u 95, u 96, u 97, u 98, u 99, u 100, u 101, u 102, u 103, u 104, u 105, u 106, u 107, u 108, u 109, u 110, u 111, u 112, u 113, u 114, u 115, u 116, u 117, u 118, u 119, u 120, u 121, u 122, u 123, u 124, u 125, u 126, u 127, u 128, u 129, u 130, u 131, u 132, u 133, u 134, u 135, u 136, u 137, u 138, u 139, u 140, u 141, u 142, u 143, u 144, u 145, u 146, u 147, u 148, u 149, u 150, u 151, u 152, u 153, u 154, u 155, u 156, u 157, u 158, u 159, u 160, u 161, u 162, u 163, u 164, u 165, u 166, u 167, u 168, u 169, u 170, u 171, u 172, u 173, u 174, u 175, u 176, u 177, u 178, u 179, u 180, u 181, u 182, u 183, u 184, u 185, u 186, u 187, u 188, u 189, u 190, u 191, u 192, u 193, u 194, u 195, u 196, u 197, u 198, u 199, u 200, u 201, u 202, u 203, u 204, u 205, u 206, u 207, u 208, u 209, u 210, u 211, u 212, u 213, u 214, u 215, u 216, u 217, u 218, u 219, u 220, u 221, u 222, u 223, u 224, u 225, u 226, u 227, u 228, u 229, u 230, u 231, u 232, u 233, u 234, u 235, u 236, u 237, u 238, u 239, u 240, u 241, u 242, u 243, u 244], []⟩) Q0) ⟨#[u 0, u 1, u 2, u 3, u 4, u 5, u 6, .pointer (some ⟨L.q, 0, none⟩), u 8, u 9, u 10, u 11, u 12, u 13, u 14, u 15, u 16, u 17, u 18, u 19, u 20, u 21, u 22, u 23, u 24, u 25, u 26, u 27, u 28, u 29, u 30, u 31, u 32, u 33, u 34, u 35, u 36, u 37, .slice (some ⟨gb, go, none⟩) len cap, .int .i64 (len : Int), .int .i64 (j : Int), u 41, u 42, u 43, u 44, u 45, u 46, u 47, u 48, u 49, u 50, u 51, u 52, u 53, u 54, u 55, u 56, u 57, u 58, u 59, u 60, u 61, u 62, u 63, u 64, u 65, u 66, u 67, u 68, u 69, u 70, u 71, u 72, u 73, u 74, u 75, u 76, u 77, u 78, u 79, u 80, u 81, u 82, u 83, u 84, u 85, u 86, u 87, u 88, u 89, u 90, u 91, u 92, u 93, u 94, u 95, u 96, u 97, u 98, u 99, u 100, u 101, u 102, u 103, u 104, u 105, u 106, u 107, u 108, u 109, u 110, u 111, u 112, u 113, u 114, u 115, u 116, u 117, u 118, u 119, u 120, u 121, u 122, u 123, u 124, u 125, u 126, u 127, u 128, u 129, u 130, u 131, u 132, u 133, u 134, u 135, u 136, u 137, u 138, u 139, u 140, u 141, u 142, u 143, u 144, u 145, u 146, u 147, u 148, u 149, u 150, u 151, u 152, u 153, u 154, u 155, u 156, u 157, u 158, u 159, u 160, u 161, u 162, u 163, u 164, u 165, u 166, u 167, u 168, u 169, u 170, u 171, u 172, u 173, u 174, u 175, u 176, u 177, u 178, u 179, u 180, u 181, u 182, u 183, u 184, u 185, u 186, u 187, u 188, u 189, u 190, u 191, u 192, u 193, u 194, u 195, u 196, u 197, u 198, u 199, u 200, u 201, u 202, u 203, u 204, u 205, u 206, u 207, u 208, u 209, u 210, u 211, u 212, u 213, u 214, u 215, u 216, u 217, u 218, u 219, u 220, u 221, u 222, u 223, u 224, u 225, u 226, u 227, u 228, u 229, u 230, u 231, u 232, u 233, u 234, u 235, u 236, u 237, u 238, u 239, u 240, u 241, u 242, u 243, u 244], []⟩ wr := by
  have HO := Lib.hid hOw
  have HI := Lib.hid hI
  have HP := Lib.hid hP
  have HZO : Hid (opa opz = _) := Lib.hid opz_na
  have hj300 : j ≤ 300 := by omega
  clear hOw hI hP
  have HN := Lib.hid (St.new HO.out q)
  rw [HZO.out] at HN
  have HW1 := Lib.hid (own_waits HN.out.2.own HI.out)
  have HVN : Hid (∀ (a : Nt) (W : World) (k : Nr) (Ns : List (Nat × Nt)), St wb W L P k wr.heap.size q Ns → (W.alloc (.cells (na zn) 37)).heap[W.heap.size]? = some (.cells (na zn) 37 (0, 0)) ∧ St wb ((W.alloc (.cells (na zn) 37)).setRow W.heap.size (na a)) L P k wr.heap.size q ((W.heap.size, a) :: Ns)) := Lib.hid fun a W k Ns s => ⟨heap_alloc_new _ _, s.varN a⟩
  rw [zn_na] at HVN
  have hns := neq_self
  obtain ⟨a, ha⟩ : ∃ a, shown k = a := ⟨_, rfl⟩
  rw [ha] at HW1
  conv => arg 2; whnf
  go_upto_region 11 with (first
    | ((with_reducible refine load_op q 42 gb (go + j * 29) ?_ hr ?_); ((rfl)))
    | ((with_reducible refine store_op q 10 43 wr.heap.size ?_ ?_ HN.out.1 ?_); ((rfl)); ((rfl)))
    | (go_at_call 22; ((with_reducible refine HW1.out.mono ?_); rintro e w2 ⟨rfl, hg2⟩; have S3 := Lib.hid (HVN.out a _ _ _ (HN.out.2.grown hg2)); obtain ⟨c0, c1, c2, c3, c4, c5, c8⟩ := S3.out.2.cells; clear hg2))
    | ((with_reducible refine tt.store_any a (na zn) 11 47 w2.heap.size ?_ ?_ ?_ ?_ ?_); ((rfl)); ((rfl)); ((exact S3.out.1)); ((rfl))))
  have e0 : (q.kd == 0) = false := by simpa using hk0
  have e1 : (q.kd == 1) = false := by simpa using hk1
  have e2 : (q.kd == 2) = false := by simpa using hk2
  have HKD := Lib.hid hk3
  try rw [hk3] at c0
  try rw [hk3]
  obtain ⟨t, nn, HT, hagg, hsize, hld⟩ := namedN'
  have HI2 := Lib.hid (HI.out.takeS HP.out (n := q.n))
  obtain ⟨k2, hk2e⟩ : ∃ x, takeS P k q.n = x := ⟨_, rfl⟩
  obtain ⟨ec, hec⟩ : ∃ x, takeE P k q.n = x := ⟨_, rfl⟩
  have HCL : Hid (∀ (W : World) (Ns : List (Nat × Nt)), St wb W L P k wr.heap.size q Ns → Calls Tryz.prog 20 #[.pointer (some ⟨L.q, 0, none⟩), .agg (na q.n)] W fun e w' => ∃ s, e = .returned (.tuple #[s, .bool (takeG P k q.n), .int .i64 ec]) ∧ OutN W w' s (takeO P k q.n) ∧ Own wb w' L P k2 ∧ Far L W w') := Lib.hid fun W Ns s => by
    have := own_take s.own HI.out HP.out q.n
    rw [hec, hk2e] at this
    exact this
  rw [hk2e] at HI2 hw1 hw2
  rw [hwt] at hw1 HW1
  try rw [hwt]
  obtain ⟨a2, ha2⟩ : ∃ a, shown k2 = a := ⟨_, rfl⟩
  have HW2 : Hid (∀ (W : World) (Ns : List (Nat × Nt)), St wb W L P k2 wr.heap.size q Ns → Calls Tryz.prog 22 #[.pointer (some ⟨L.q, 0, none⟩)] W fun e w' => e = .returned (.tuple #[.agg (na a2), .bool false]) ∧ W.grownBy w' none) := Lib.hid fun W Ns s => by
    have := own_waits s.own HI2.out
    rw [ha2, hw1] at this
    exact this
  clear ha ha2 hk0 hk1 hk2 hk3 hk2e hec e0 e1 e2 hw1 hw2 hwt HT hld
  have rq := S3.out.2.note
  go_wp2_with (first
    | (go_at_call 22; ((with_reducible refine (HW2.out _ _ S4.out).mono ?_); rintro e w5 ⟨rfl, hg5⟩; have S5 := Lib.hid (HVN.out a2 _ _ _ (S4.out.grown hg5)); obtain ⟨c0', c1', c2', c3', c4', c5', c8'⟩ := S5.out.2.cells; clear hg5))
    | (go_at_call 20; ((with_reducible refine (HCL.out _ _ S3.out.2).mono ?_); rintro e w4 ⟨s, rfl, ho, hw, hf⟩; have S4 := Lib.hid (S3.out.2.far hw hf); clear ho hw hf))
    | ((with_reducible refine load_o q.n 179 wr.heap.size 5 ?_ rq ?_); ((rfl)))
    | ((with_reducible refine tt.store_any a2 (na zn) 22 188 w5.heap.size ?_ ?_ ?_ ?_ ?_); ((rfl)); ((rfl)); ((exact S5.out.1)); ((rfl))))
  all_goals (
    refine ⟨⟨rfl, rfl, rfl, rfl, rfl, j + 1, k2, by omega, by show Value.int .i64 ((j : Int) + 1) = Value.int .i64 ((j + 1 : Nat) : Int); simp, by first | exact S5.out.2.own | exact (S5.out.2.own).grown (grown_drewN (grown_refl _ _) _), HI2.out⟩, ?_⟩
    show len - ((j : Int) + 1).toNat < len - (j : Int).toNat
    omega)
theorem asks_3b (P : Pm) (L : LL) (k : Nr) (j len cap gb go : Nat) (q : OpX) (wb wr : World) (u : Nat → Value) (Q0 : Exit → Act → World → Prop) (hP : Pok P) (hOw : Own wb wr L P k) (hI : Inv P k) (hlt : j < len) (h300 : len ≤ 300)
    (hr : wr.rangeAt gb (go + j * 29) (opc q)) (hx : 0 ≤ q.x ∧ q.x < 4294967296) (hst : 0 ≤ q.n.st) (hk3 : q.kd = 3) (hk0 : ¬ q.kd = 0) (hk1 : ¬ q.kd = 1) (hk2 : ¬ q.kd = 2) (hw1 : (takeS P k q.n).wt = k.wt) (hw2 : (takeS P k q.n).ask = k.ask) (hwt : k.wt = true) :
    Code.wp Tryz.prog asksBody (Exit.then (fun a' w' => AI wb L P len cap (some ⟨gb, go, none⟩) a' w' ∧ Mu len a' < Mu len ⟨#[u 0, u 1, u 2, u 3, u 4, u 5, u 6, .pointer (some ⟨L.q, 0, none⟩), u 8, u 9, u 10, u 11, u 12, u 13, u 14, u 15, u 16, u 17, u 18, u 19, u 20, u 21, u 22, u 23, u 24, u 25, u 26, u 27, u 28, u 29, u 30, u 31, u 32, u 33, u 34, u 35, u 36, u 37, .slice (some ⟨gb, go, none⟩) len cap, .int .i64 (len : Int), .int .i64 (j : Int), u 41, u 42, u 43, u 44, u 45, u 46, u 47, u 48, u 49, u 50, u 51, u 52, u 53, u 54, u 55, u 56, u 57, u 58, u 59, u 60, u 61, u 62, u 63, u 64, u 65, u 66, u 67, u 68, u 69, u 70, u 71, u 72, u 73, u 74, u 75, u 76, u 77, u 78, u 79, u 80, u 81, u 82, u 83, u 84, u 85, u 86, u 87, u 88, u 89, u 90, u 91, u 92, u 93, u 94, u 95, u 96, u 97, u 98, u 99, u 100, u 101, u 102, u 103, u 104, u 105, u 106, u 107, u 108, u 109, u 110, u 111, u 112, u 113, u 114, u 115, u 116, u 117, u 118, u 119, u 120, u 121, u 122, u 123, u 124, u 125, u 126, u 127, u 128, u 129, u 130, u 131, u 132, u 133, u 134, u 135, u 136, u 137, u 138, u 139, u 140, u 141, u 142, u 143, u 144, u 145, u 146, u 147, u 148, u 149, u 150, u 151, u 152, u 153, u 154, u 155, u 156, u 157, u 158, u 159, u 160, u 161, u 162, u 163, u 164, u 165, u 166, u 167, u 168, u 169, u 170, u 171, u 172, u 173, u 174, u 175, u 176, u 177, u 178, u 179, u 180, u 181, u 182, u 183, u 184, u 185, u 186, u 187, u 188, u 189, u 190, u 191, u 192, u 193, u 194, u 195, u 196, u 197, u 198, u 199, u 200, u 201, u 202, u 203, u 204, u 205, u 206, u 207, u 208, u 209, u 210, u 211, u 212, u 213, u 214, u 215, u 216, u 217, u 218, u 219, u 220, u 221, u 222, u 223, u 224, u 225, u 226, u 227, u 228, u 229, u 230, u 231, u 232, u 233, u 234, u 235, u 236, u 237, u 238, u 239, u 240, u 241, u 242, u 243, u 244], []⟩) Q0) ⟨#[u 0, u 1, u 2, u 3, u 4, u 5, u 6, .pointer (some ⟨L.q, 0, none⟩), u 8, u 9, u 10, u 11, u 12, u 13, u 14, u 15, u 16, u 17, u 18, u 19, u 20, u 21, u 22, u 23, u 24, u 25, u 26, u 27, u 28, u 29, u 30, u 31, u 32, u 33, u 34, u 35, u 36, u 37, .slice (some ⟨gb, go, none⟩) len cap, .int .i64 (len : Int), .int .i64 (j : Int), u 41, u 42, u 43, u 44, u 45, u 46, u 47, u 48, u 49, u 50, u 51, u 52, u 53, u 54, u 55, u 56, u 57, u 58, u 59, u 60, u 61, u 62, u 63, u 64, u 65, u 66, u 67, u 68, u 69, u 70, u 71, u 72, u 73, u 74, u 75, u 76, u 77, u 78, u 79, u 80, u 81, u 82, u 83, u 84, u 85, u 86, u 87, u 88, u 89, u 90, u 91, u 92, u 93, u 94, u 95, u 96, u 97, u 98, u 99, u 100, u 101, u 102, u 103, u 104, u 105, u 106, u 107, u 108, u 109, u 110, u 111, u 112, u 113, u 114, u 115, u 116, u 117, u 118, u 119, u 120, u 121, u 122, u 123, u 124, u 125, u 126, u 127, u 128, u 129, u 130, u 131, u 132, u 133, u 134, u 135, u 136, u 137, u 138, u 139, u 140, u 141, u 142, u 143, u 144, u 145, u 146, u 147, u 148, u 149, u 150, u 151, u 152, u 153, u 154, u 155, u 156, u 157, u 158, u 159, u 160, u 161, u 162, u 163, u 164, u 165, u 166, u 167, u 168, u 169, u 170, u 171, u 172, u 173, u 174, u 175, u 176, u 177, u 178, u 179, u 180, u 181, u 182, u 183, u 184, u 185, u 186, u 187, u 188, u 189, u 190, u 191, u 192, u 193, u 194, u 195, u 196, u 197, u 198, u 199, u 200, u 201, u 202, u 203, u 204, u 205, u 206, u 207, u 208, u 209, u 210, u 211, u 212, u 213, u 214, u 215, u 216, u 217, u 218, u 219, u 220, u 221, u 222, u 223, u 224, u 225, u 226, u 227, u 228, u 229, u 230, u 231, u 232, u 233, u 234, u 235, u 236, u 237, u 238, u 239, u 240, u 241, u 242, u 243, u 244], []⟩ wr := by
  have HO := Lib.hid hOw
  have HI := Lib.hid hI
  have HP := Lib.hid hP
  have HZO : Hid (opa opz = _) := Lib.hid opz_na
  have hj300 : j ≤ 300 := by omega
  clear hOw hI hP
  have HN := Lib.hid (St.new HO.out q)
  rw [HZO.out] at HN
  have HW1 := Lib.hid (own_waits HN.out.2.own HI.out)
  have HVN : Hid (∀ (a : Nt) (W : World) (k : Nr) (Ns : List (Nat × Nt)), St wb W L P k wr.heap.size q Ns → (W.alloc (.cells (na zn) 37)).heap[W.heap.size]? = some (.cells (na zn) 37 (0, 0)) ∧ St wb ((W.alloc (.cells (na zn) 37)).setRow W.heap.size (na a)) L P k wr.heap.size q ((W.heap.size, a) :: Ns)) := Lib.hid fun a W k Ns s => ⟨heap_alloc_new _ _, s.varN a⟩
  rw [zn_na] at HVN
  have hns := neq_self
  obtain ⟨a, ha⟩ : ∃ a, shown k = a := ⟨_, rfl⟩
  rw [ha] at HW1
  conv => arg 2; whnf
  go_upto_region 11 with (first
    | ((with_reducible refine load_op q 42 gb (go + j * 29) ?_ hr ?_); ((rfl)))
    | ((with_reducible refine store_op q 10 43 wr.heap.size ?_ ?_ HN.out.1 ?_); ((rfl)); ((rfl)))
    | (go_at_call 22; ((with_reducible refine HW1.out.mono ?_); rintro e w2 ⟨rfl, hg2⟩; have S3 := Lib.hid (HVN.out a _ _ _ (HN.out.2.grown hg2)); obtain ⟨c0, c1, c2, c3, c4, c5, c8⟩ := S3.out.2.cells; clear hg2))
    | ((with_reducible refine tt.store_any a (na zn) 11 47 w2.heap.size ?_ ?_ ?_ ?_ ?_); ((rfl)); ((rfl)); ((exact S3.out.1)); ((rfl))))
  have e0 : (q.kd == 0) = false := by simpa using hk0
  have e1 : (q.kd == 1) = false := by simpa using hk1
  have e2 : (q.kd == 2) = false := by simpa using hk2
  have HKD := Lib.hid hk3
  try rw [hk3] at c0
  try rw [hk3]
  obtain ⟨t, nn, HT, hagg, hsize, hld⟩ := namedN'
  have HI2 := Lib.hid (HI.out.takeS HP.out (n := q.n))
  obtain ⟨k2, hk2e⟩ : ∃ x, takeS P k q.n = x := ⟨_, rfl⟩
  obtain ⟨ec, hec⟩ : ∃ x, takeE P k q.n = x := ⟨_, rfl⟩
  have HCL : Hid (∀ (W : World) (Ns : List (Nat × Nt)), St wb W L P k wr.heap.size q Ns → Calls Tryz.prog 20 #[.pointer (some ⟨L.q, 0, none⟩), .agg (na q.n)] W fun e w' => ∃ s, e = .returned (.tuple #[s, .bool (takeG P k q.n), .int .i64 ec]) ∧ OutN W w' s (takeO P k q.n) ∧ Own wb w' L P k2 ∧ Far L W w') := Lib.hid fun W Ns s => by
    have := own_take s.own HI.out HP.out q.n
    rw [hec, hk2e] at this
    exact this
  rw [hk2e] at HI2 hw1 hw2
  rw [hwt] at hw1 HW1
  try rw [hwt]
  have ha2 : shown k2 = a := by rw [← ha]; unfold shown; rw [hw1, hwt, hw2]
  have HW2 : Hid (∀ (W : World) (Ns : List (Nat × Nt)), St wb W L P k2 wr.heap.size q Ns → Calls Tryz.prog 22 #[.pointer (some ⟨L.q, 0, none⟩)] W fun e w' => e = .returned (.tuple #[.agg (na a), .bool true]) ∧ W.grownBy w' none) := Lib.hid fun W Ns s => by
    have := own_waits s.own HI2.out
    rw [ha2, hw1] at this
    exact this
  clear ha ha2 hk0 hk1 hk2 hk3 hk2e hec e0 e1 e2 hw1 hw2 hwt
  have rq := S3.out.2.note
  go_upto_region 27 with (first
    | (go_at_call 22; ((with_reducible refine (HW2.out _ _ S4.out).mono ?_); rintro e w5 ⟨rfl, hg5⟩; have S5 := Lib.hid (HVN.out a _ _ _ (S4.out.grown hg5)); obtain ⟨c0', c1', c2', c3', c4', c5', c8'⟩ := S5.out.2.cells; clear hg5))
    | (go_at_call 20; ((with_reducible refine (HCL.out _ _ S3.out.2).mono ?_); rintro e w4 ⟨s, rfl, ho, hw, hf⟩; have S4 := Lib.hid (S3.out.2.far hw hf); clear ho hw hf))
    | ((with_reducible refine load_o q.n 179 wr.heap.size 5 ?_ rq ?_); ((rfl)))
    | ((with_reducible refine tt.store_any a (na zn) 22 188 w5.heap.size ?_ ?_ ?_ ?_ ?_); ((rfl)); ((rfl)); ((exact S5.out.1)); ((rfl))))
  all_goals (
    have hA := hld w2.heap.size 0 a _ (S5.out.2.rangeN (.tail _ (.head _)))
    have hZ := hld w5.heap.size 0 a _ (S5.out.2.rangeN (.head _))
    rw [HT.out]
    clear hld
    go_wp2_with fail
    refine ⟨⟨rfl, rfl, rfl, rfl, rfl, j + 1, k2, by omega, by show Value.int .i64 ((j : Int) + 1) = Value.int .i64 ((j + 1 : Nat) : Int); simp, by first | exact S5.out.2.own | exact (S5.out.2.own).grown (grown_drewN (grown_refl _ _) _), HI2.out⟩, ?_⟩
    show len - ((j : Int) + 1).toNat < len - (j : Int).toNat
    omega)
theorem asks_3c (P : Pm) (L : LL) (k : Nr) (j len cap gb go : Nat) (q : OpX) (wb wr : World) (u : Nat → Value) (Q0 : Exit → Act → World → Prop) (hP : Pok P) (hOw : Own wb wr L P k) (hI : Inv P k) (hlt : j < len) (h300 : len ≤ 300)
    (hr : wr.rangeAt gb (go + j * 29) (opc q)) (hx : 0 ≤ q.x ∧ q.x < 4294967296) (hst : 0 ≤ q.n.st) (hk3 : q.kd = 3) (hk0 : ¬ q.kd = 0) (hk1 : ¬ q.kd = 1) (hk2 : ¬ q.kd = 2) (hwt : k.wt = true) (hw1 : (takeS P k q.n).wt = false) (hw2 : (takeS P k q.n).ask = k.ask) (hw3 : takeE P k q.n = 0) (hw4 : q.n.k = 6 ∨ q.n.k = 7) (hw5 : q.n.b = k.ask.b) :
    Code.wp Tryz.prog asksBody (Exit.then (fun a' w' => AI wb L P len cap (some ⟨gb, go, none⟩) a' w' ∧ Mu len a' < Mu len ⟨#[u 0, u 1, u 2, u 3, u 4, u 5, u 6, .pointer (some ⟨L.q, 0, none⟩), u 8, u 9, u 10, u 11, u 12, u 13, u 14, u 15, u 16, u 17, u 18, u 19, u 20, u 21, u 22, u 23, u 24, u 25, u 26, u 27, u 28, u 29, u 30, u 31, u 32, u 33, u 34, u 35, u 36, u 37, .slice (some ⟨gb, go, none⟩) len cap, .int .i64 (len : Int), .int .i64 (j : Int), u 41, u 42, u 43, u 44, u 45, u 46, u 47, u 48, u 49, u 50, u 51, u 52, u 53, u 54, u 55, u 56, u 57, u 58, u 59, u 60, u 61, u 62, u 63, u 64, u 65, u 66, u 67, u 68, u 69, u 70, u 71, u 72, u 73, u 74, u 75, u 76, u 77, u 78, u 79, u 80, u 81, u 82, u 83, u 84, u 85, u 86, u 87, u 88, u 89, u 90, u 91, u 92, u 93, u 94, u 95, u 96, u 97, u 98, u 99, u 100, u 101, u 102, u 103, u 104, u 105, u 106, u 107, u 108, u 109, u 110, u 111, u 112, u 113, u 114, u 115, u 116, u 117, u 118, u 119, u 120, u 121, u 122, u 123, u 124, u 125, u 126, u 127, u 128, u 129, u 130, u 131, u 132, u 133, u 134, u 135, u 136, u 137, u 138, u 139, u 140, u 141, u 142, u 143, u 144, u 145, u 146, u 147, u 148, u 149, u 150, u 151, u 152, u 153, u 154, u 155, u 156, u 157, u 158, u 159, u 160, u 161, u 162, u 163, u 164, u 165, u 166, u 167, u 168, u 169, u 170, u 171, u 172, u 173, u 174, u 175, u 176, u 177, u 178, u 179, u 180, u 181, u 182, u 183, u 184, u 185, u 186, u 187, u 188, u 189, u 190, u 191, u 192, u 193, u 194, u 195, u 196, u 197, u 198, u 199, u 200, u 201, u 202, u 203, u 204, u 205, u 206, u 207, u 208, u 209, u 210, u 211, u 212, u 213, u 214, u 215, u 216, u 217, u 218, u 219, u 220, u 221, u 222, u 223, u 224, u 225, u 226, u 227, u 228, u 229, u 230, u 231, u 232, u 233, u 234, u 235, u 236, u 237, u 238, u 239, u 240, u 241, u 242, u 243, u 244], []⟩) Q0) ⟨#[u 0, u 1, u 2, u 3, u 4, u 5, u 6, .pointer (some ⟨L.q, 0, none⟩), u 8, u 9, u 10, u 11, u 12, u 13, u 14, u 15, u 16, u 17, u 18, u 19, u 20, u 21, u 22, u 23, u 24, u 25, u 26, u 27, u 28, u 29, u 30, u 31, u 32, u 33, u 34, u 35, u 36, u 37, .slice (some ⟨gb, go, none⟩) len cap, .int .i64 (len : Int), .int .i64 (j : Int), u 41, u 42, u 43, u 44, u 45, u 46, u 47, u 48, u 49, u 50, u 51, u 52, u 53, u 54, u 55, u 56, u 57, u 58, u 59, u 60, u 61, u 62, u 63, u 64, u 65, u 66, u 67, u 68, u 69, u 70, u 71, u 72, u 73, u 74, u 75, u 76, u 77, u 78, u 79, u 80, u 81, u 82, u 83, u 84, u 85, u 86, u 87, u 88, u 89, u 90, u 91, u 92, u 93, u 94, u 95, u 96, u 97, u 98, u 99, u 100, u 101, u 102, u 103, u 104, u 105, u 106, u 107, u 108, u 109, u 110, u 111, u 112, u 113, u 114, u 115, u 116, u 117, u 118, u 119, u 120, u 121, u 122, u 123, u 124, u 125, u 126, u 127, u 128, u 129, u 130, u 131, u 132, u 133, u 134, u 135, u 136, u 137, u 138, u 139, u 140, u 141, u 142, u 143, u 144, u 145, u 146, u 147, u 148, u 149, u 150, u 151, u 152, u 153, u 154, u 155, u 156, u 157, u 158, u 159, u 160, u 161, u 162, u 163, u 164, u 165, u 166, u 167, u 168, u 169, u 170, u 171, u 172, u 173, u 174, u 175, u 176, u 177, u 178, u 179, u 180, u 181, u 182, u 183, u 184, u 185, u 186, u 187, u 188, u 189, u 190, u 191, u 192, u 193, u 194, u 195, u 196, u 197, u 198, u 199, u 200, u 201, u 202, u 203, u 204, u 205, u 206, u 207, u 208, u 209, u 210, u 211, u 212, u 213, u 214, u 215, u 216, u 217, u 218, u 219, u 220, u 221, u 222, u 223, u 224, u 225, u 226, u 227, u 228, u 229, u 230, u 231, u 232, u 233, u 234, u 235, u 236, u 237, u 238, u 239, u 240, u 241, u 242, u 243, u 244], []⟩ wr := by
  have HO := Lib.hid hOw
  have HI := Lib.hid hI
  have HP := Lib.hid hP
  have HZO : Hid (opa opz = _) := Lib.hid opz_na
  have hj300 : j ≤ 300 := by omega
  clear hOw hI hP
  have HN := Lib.hid (St.new HO.out q)
  rw [HZO.out] at HN
  have HW1 := Lib.hid (own_waits HN.out.2.own HI.out)
  have HVN : Hid (∀ (a : Nt) (W : World) (k : Nr) (Ns : List (Nat × Nt)), St wb W L P k wr.heap.size q Ns → (W.alloc (.cells (na zn) 37)).heap[W.heap.size]? = some (.cells (na zn) 37 (0, 0)) ∧ St wb ((W.alloc (.cells (na zn) 37)).setRow W.heap.size (na a)) L P k wr.heap.size q ((W.heap.size, a) :: Ns)) := Lib.hid fun a W k Ns s => ⟨heap_alloc_new _ _, s.varN a⟩
  rw [zn_na] at HVN
  have hns := neq_self
  obtain ⟨a, ha⟩ : ∃ a, shown k = a := ⟨_, rfl⟩
  rw [ha] at HW1
  conv => arg 2; whnf
  go_upto_region 11 with (first
    | ((with_reducible refine load_op q 42 gb (go + j * 29) ?_ hr ?_); ((rfl)))
    | ((with_reducible refine store_op q 10 43 wr.heap.size ?_ ?_ HN.out.1 ?_); ((rfl)); ((rfl)))
    | (go_at_call 22; ((with_reducible refine HW1.out.mono ?_); rintro e w2 ⟨rfl, hg2⟩; have S3 := Lib.hid (HVN.out a _ _ _ (HN.out.2.grown hg2)); obtain ⟨c0, c1, c2, c3, c4, c5, c8⟩ := S3.out.2.cells; clear hg2))
    | ((with_reducible refine tt.store_any a (na zn) 11 47 w2.heap.size ?_ ?_ ?_ ?_ ?_); ((rfl)); ((rfl)); ((exact S3.out.1)); ((rfl))))
  have e0 : (q.kd == 0) = false := by simpa using hk0
  have e1 : (q.kd == 1) = false := by simpa using hk1
  have e2 : (q.kd == 2) = false := by simpa using hk2
  have HKD := Lib.hid hk3
  try rw [hk3] at c0
  try rw [hk3]
  obtain ⟨t, nn, HT, hagg, hsize, hld⟩ := namedN'
  have HI2 := Lib.hid (HI.out.takeS HP.out (n := q.n))
  obtain ⟨k2, hk2e⟩ : ∃ x, takeS P k q.n = x := ⟨_, rfl⟩
  obtain ⟨ec, hec⟩ : ∃ x, takeE P k q.n = x := ⟨_, rfl⟩
  have HCL : Hid (∀ (W : World) (Ns : List (Nat × Nt)), St wb W L P k wr.heap.size q Ns → Calls Tryz.prog 20 #[.pointer (some ⟨L.q, 0, none⟩), .agg (na q.n)] W fun e w' => ∃ s, e = .returned (.tuple #[s, .bool (takeG P k q.n), .int .i64 ec]) ∧ OutN W w' s (takeO P k q.n) ∧ Own wb w' L P k2 ∧ Far L W w') := Lib.hid fun W Ns s => by
    have := own_take s.own HI.out HP.out q.n
    rw [hec, hk2e] at this
    exact this
  rw [hk2e] at HI2 hw1 hw2
  rw [hec] at hw3
  rw [hwt] at HW1
  try rw [hwt]
  obtain ⟨a2, ha2⟩ : ∃ a, shown k2 = a := ⟨_, rfl⟩
  have hab : a.b = q.n.b := by rw [← ha]; unfold shown; rw [if_pos hwt, hw5]
  have HAB := Lib.hid hab
  have HW2 : Hid (∀ (W : World) (Ns : List (Nat × Nt)), St wb W L P k2 wr.heap.size q Ns → Calls Tryz.prog 22 #[.pointer (some ⟨L.q, 0, none⟩)] W fun e w' => e = .returned (.tuple #[.agg (na a2), .bool false]) ∧ W.grownBy w' none) := Lib.hid fun W Ns s => by
    have := own_waits s.own HI2.out
    rw [ha2, hw1] at this
    exact this
  subst hw3
  have HK67 := Lib.hid hw4
  clear ha ha2 hk0 hk1 hk2 hk3 hk2e hec e0 e1 e2 hw1 hw2 hw4 hw5 hwt HT hld hab
  have rq := S3.out.2.note
  go_upto_region 26 with (first
    | (go_at_call 22; ((with_reducible refine (HW2.out _ _ S4.out).mono ?_); rintro e w5 ⟨rfl, hg5⟩; have S5 := Lib.hid (HVN.out a2 _ _ _ (S4.out.grown hg5)); obtain ⟨c0', c1', c2', c3', c4', c5', c8'⟩ := S5.out.2.cells; clear hg5))
    | (go_at_call 20; ((with_reducible refine (HCL.out _ _ S3.out.2).mono ?_); rintro e w4 ⟨s, rfl, ho, hw, hf⟩; have S4 := Lib.hid (S3.out.2.far hw hf); clear ho hw hf))
    | ((with_reducible refine load_o q.n 179 wr.heap.size 5 ?_ rq ?_); ((rfl)))
    | ((with_reducible refine tt.store_any a2 (na zn) 22 188 w5.heap.size ?_ ?_ ?_ ?_ ?_); ((rfl)); ((rfl)); ((exact S5.out.1)); ((rfl))))
  have ab := S5.out.2.cellN (.tail _ (.head _)) 3 _ rfl
  rw [HAB.out] at ab
  rcases HK67.out with hk6 | hk6
  all_goals (
    rw [hk6] at c5'
    go_wp2_with fail
    refine ⟨⟨rfl, rfl, rfl, rfl, rfl, j + 1, k2, by omega, by show Value.int .i64 ((j : Int) + 1) = Value.int .i64 ((j + 1 : Nat) : Int); simp, by first | exact S5.out.2.own | exact (S5.out.2.own).grown (grown_drewN (grown_refl _ _) _), HI2.out⟩, ?_⟩
    show len - ((j : Int) + 1).toNat < len - (j : Int).toNat
    omega)
end Go.Proofs.YtinogiidiommkaaGreatDoor.nl
