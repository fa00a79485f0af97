/-
  Rounds of the law NearAsks: asks that fail, or are ready. Conditions: the tables of bounds and of kinds lie in their variables as the program's text has them; that the script lies where the argument says.
-/
import Derived.Test.YtinogiidiommkaaGreatDoorNmA
namespace Go.Proofs.YtinogiidiommkaaGreatDoor.nl
open Go Go.ChangeShapes Go.WideShapes Go.ChangeAt Go.RowKit Go.Shelf
open Go.Proofs.YtinogiidiommkaaGreatDoor.nr
open Go.Proofs.YtinogiidiommkaaGreatDoor.tt (OpX opc OpsAt cfg_at CfgAt Cfg Nt na nt zn bare zd fits row tyne lt_of U Tab TabK grown_refl grown_trans grown_alloc grown_setCells grown_drew grown_drewN yes Sl Next flat)
open Go.Proofs.YtinogiidiommkaaGreatDoor.kk (Ln St zl la ln cfind cdrop cuse cgoes cwrite cturn cput setAt setOf live fF Shp Cac Kept)
open Go.Proofs.YtinogiidiommkaaGreatDoor.bk (Bk rem kills puts putE fd fl Nd Rg dead fresh BkAt)
open Go.Proofs.YtinogiidiommkaaGreatDoor.mrk (Ms rdS wrS meets addE Dom MkAt)
open Go.Proofs.YtinogiidiommkaaGreatDoor.de (Dl sT gE rF aD LAt)
open Go.Proofs.YtinogiidiommkaaGreatDoor.oo (ref)
set_option linter.unusedVariables false
set_option maxRecDepth 1000000
set_option maxHeartbeats 16000000

theorem asks_0a (P : Pm) (L : LL) (k : Nr) (j len cap gb go : Nat) (q : OpX) (wb wr : World) (u : Nat → Value) (Q0 : Exit → Act → World → Prop) (hP : Pok P) (hOw : Own wb wr L P k) (hI : Inv P k) (hlt : j < len) (h300 : len ≤ 300)
    (hr : wr.rangeAt gb (go + j * 29) (opc q)) (hx : 0 ≤ q.x ∧ q.x < 4294967296) (hst : 0 ≤ q.n.st) (hk0 : q.kd = 0) (hE : askE P k q.b q.y ≠ 0) (hO : askO P k q.b q.y = []) (hS : askS P k q.b q.y = k) (hR : askR P k q.b q.y = false) (hwt : k.wt = false) :
    Code.wp Tryz.prog asksBody (Exit.then (fun a' w' => AI wb L P len cap (some ⟨gb, go, none⟩) a' w' ∧ Mu len a' < Mu len ⟨#[u 0, u 1, u 2, u 3, u 4, u 5, u 6, .pointer (some ⟨L.q, 0, none⟩), u 8, u 9, u 10, u 11, u 12, u 13, u 14, u 15, u 16, u 17, u 18, u 19, u 20, u 21, u 22, u 23, u 24, u 25, u 26, u 27, u 28, u 29, u 30, u 31, u 32, u 33, u 34, u 35, u 36, u 37, .slice (some ⟨gb, go, none⟩) len cap, .int .i64 (len : Int), .int .i64 (j : Int), u 41, u 42, u 43, u 44, u 45, u 46, u 47, u 48, u 49, u 50, u 51, u 52, u 53, u 54, u 55, u 56, u 57, u 58, u 59, u 60, u 61, u 62, u 63, u 64, u 65, u 66, u 67, u 68, u 69, u 70, u 71, u 72, u 73, u 74, u 75, u 76, u 77, u 78, u 79, u 80, u 81, u 82, u 83, u 84, u 85, u 86, u 87, u 88, u 89, u 90, u 91, u 92, u 93, u 94, u 95, u 96, u 97, u 98, u 99, u 100, u 101, u 102, u 103, u 104, u 105, u 106, u 107, u 108, u 109, u 110, u 111, u 112, u 113, u 114, u 115, u 116, u 117, u 118, u 119, u 120, u 121, u 122, u 123, u 124, u 125, u 126, u 127, u 128, u 129, u 130, u 131, u 132, u 133, u 134, u 135, u 136, u 137, u 138, u 139, u 140, u 141, u 142, u 143, u 144, u 145, u 146, u 147, u 148, u 149, u 150, u 151, u 152, u 153, u 154, u 155, u 156, u 157, u 158, u 159, u 160, u 161, u 162, u 163, u 164, u 165, u 166, u 167, u 168, u 169, u 170, u 171, u 172, u 173, u 174, u 175, u 176, u 177, u 178, u 179, u 180, u 181, u 182, u 183, u 184, u 185, u 186, u 187, u 188, u 189, u 190, u 191, u 192, u 193, u 194, u 195, u 196, u 197, u 198, u 199, u 200, u 201, u 202, u 203, u 204, u 205, u 206, u 207, u 208, u 209, u 210, u 211, u 212, u 213, u 214, u 215, u 216, u 217, u 218, u 219, u 220, u 221, u 222, u 223, u 224, u 225, u 226, u 227, u 228, u 229, u 230, u 231, u 232, u 233, u 234, u 235, u 236, u 237, u 238, u 239, u 240, u 241, u 242, u 243, u 244], []⟩) Q0) ⟨#[u 0, u 1, u 2, u 3, u 4, u 5, u 6, .pointer (some ⟨L.q, 0, none⟩), u 8, u 9, u 10, u 11, u 12, u 13, u 14, u 15, u 16, u 17, u 18, u 19, u 20, u 21, u 22, u 23, u 24, u 25, u 26, u 27, u 28, u 29, u 30, u 31, u 32, u 33, u 34, u 35, u 36, u 37, .slice (some ⟨gb, go, none⟩) len cap, .int .i64 (len : Int), .int .i64 (j : Int), u 41, u 42, u 43, u 44, u 45, u 46, u 47, u 48, u 49, u 50, u 51, u 52, u 53, u 54, u 55, u 56, u 57, u 58, u 59, u 60, u 61, u 62, u 63, u 64, u 65, u 66, u 67, u 68, u 69, u 70, u 71, u 72, u 73, u 74, u 75, u 76, u 77, u 78, u 79, u 80, u 81, u 82, u 83, u 84, u 85, u 86, u 87, u 88, u 89, u 90, u 91, u 92, u 93, u 94, u 95, u 96, u 97, u 98, u 99, u 100, u 101, u 102, u 103, u 104, u 105, u 106, u 107, u 108, u 109, u 110, u 111, u 112, u 113, u 114, u 115, u 116, u 117, u 118, u 119, u 120, u 121, u 122, u 123, u 124, u 125, u 126, u 127, u 128, u 129, u 130, u 131, u 132, u 133, u 134, u 135, u 136, u 137, u 138, u 139, u 140, u 141, u 142, u 143, u 144, u 145, u 146, u 147, u 148, u 149, u 150, u 151, u 152, u 153, u 154, u 155, u 156, u 157, u 158, u 159, u 160, u 161, u 162, u 163, u 164, u 165, u 166, u 167, u 168, u 169, u 170, u 171, u 172, u 173, u 174, u 175, u 176, u 177, u 178, u 179, u 180, u 181, u 182, u 183, u 184, u 185, u 186, u 187, u 188, u 189, u 190, u 191, u 192, u 193, u 194, u 195, u 196, u 197, u 198, u 199, u 200, u 201, u 202, u 203, u 204, u 205, u 206, u 207, u 208, u 209, u 210, u 211, u 212, u 213, u 214, u 215, u 216, u 217, u 218, u 219, u 220, u 221, u 222, u 223, u 224, u 225, u 226, u 227, u 228, u 229, u 230, u 231, u 232, u 233, u 234, u 235, u 236, u 237, u 238, u 239, u 240, u 241, u 242, u 243, u 244], []⟩ wr := by
  have HO := Lib.hid hOw
  have HI := Lib.hid hI
  have HP := Lib.hid hP
  have HZO : Hid (opa opz = _) := Lib.hid opz_na
  have hj300 : j ≤ 300 := by omega
  clear hOw hI hP
  have HN := Lib.hid (St.new HO.out q)
  rw [HZO.out] at HN
  have HW1 := Lib.hid (own_waits HN.out.2.own HI.out)
  have HVN : Hid (∀ (a : Nt) (W : World) (k : Nr) (Ns : List (Nat × Nt)), St wb W L P k wr.heap.size q Ns → (W.alloc (.cells (na zn) 37)).heap[W.heap.size]? = some (.cells (na zn) 37 (0, 0)) ∧ St wb ((W.alloc (.cells (na zn) 37)).setRow W.heap.size (na a)) L P k wr.heap.size q ((W.heap.size, a) :: Ns)) := Lib.hid fun a W k Ns s => ⟨heap_alloc_new _ _, s.varN a⟩
  rw [zn_na] at HVN
  have hns := neq_self
  obtain ⟨a, ha⟩ : ∃ a, shown k = a := ⟨_, rfl⟩
  rw [ha] at HW1
  conv => arg 2; whnf
  go_upto_region 11 with (first
    | ((with_reducible refine load_op q 42 gb (go + j * 29) ?_ hr ?_); ((rfl)))
    | ((with_reducible refine store_op q 10 43 wr.heap.size ?_ ?_ HN.out.1 ?_); ((rfl)); ((rfl)))
    | (go_at_call 22; ((with_reducible refine HW1.out.mono ?_); rintro e w2 ⟨rfl, hg2⟩; have S3 := Lib.hid (HVN.out a _ _ _ (HN.out.2.grown hg2)); obtain ⟨c0, c1, c2, c3, c4, c5, c8⟩ := S3.out.2.cells; clear hg2))
    | ((with_reducible refine tt.store_any a (na zn) 11 47 w2.heap.size ?_ ?_ ?_ ?_ ?_); ((rfl)); ((rfl)); ((exact S3.out.1)); ((rfl))))
  have HKD := Lib.hid hk0
  try rw [hk0] at c0
  try rw [hk0]
  obtain ⟨t, nn, HT, hagg, hsize, hld⟩ := namedN'
  obtain ⟨ec, hec⟩ : ∃ x, askE P k q.b q.y = x := ⟨_, rfl⟩
  rw [hec] at hE
  have en : (ec != 0) = true := by simpa using hE
  have ez : (ec == 0) = false := by simpa using hE
  have HAK : Hid (∀ (W : World) (Ns : List (Nat × Nt)), St wb W L P k wr.heap.size q Ns → Calls Tryz.prog 16 #[.pointer (some ⟨L.q, 0, none⟩), .int .i64 q.b, .bool q.y] W fun e w' => ∃ s, e = .returned (.tuple #[.bool false, s, .int .i64 ec]) ∧ OutN W w' s [] ∧ Own wb w' L P k ∧ Far L W w') := Lib.hid fun W Ns s => by
    have := own_ask s.own HI.out q.b q.y
    rw [hR, hO, hS, hec] at this
    exact this
  have HW2 : Hid (∀ (W : World) (Ns : List (Nat × Nt)), St wb W L P k wr.heap.size q Ns → Calls Tryz.prog 22 #[.pointer (some ⟨L.q, 0, none⟩)] W fun e w' => e = .returned (.tuple #[.agg (na a), .bool false]) ∧ W.grownBy w' none) := Lib.hid fun W Ns s => by
    have := own_waits s.own HI.out
    rw [ha, hwt] at this
    exact this
  rw [hwt] at HW1
  try rw [hwt]
  clear ha hE hO hS hR hec hwt hk0 HT hld
  go_upto_region 17 with (first
    | (go_at_call 22; ((with_reducible refine (HW2.out _ _ S4.out).mono ?_); rintro e w5 ⟨rfl, hg5⟩; have S5 := Lib.hid (HVN.out a _ _ _ (S4.out.grown hg5)); obtain ⟨c0', c1', c2', c3', c4', c5', c8'⟩ := S5.out.2.cells; clear hg5))
    | (go_at_call 16; ((with_reducible refine (HAK.out _ _ S3.out.2).mono ?_); rintro e w4 ⟨s, rfl, ho, hw, hf⟩; have S4 := Lib.hid (S3.out.2.far hw hf); obtain ⟨ad4, cap4, rfl⟩ := ho.sl.form; have OS := Lib.hid ho; clear ho hw hf))
    | ((with_reducible refine tt.store_any a (na zn) 16 66 w5.heap.size ?_ ?_ ?_ ?_ ?_); ((rfl)); ((rfl)); ((exact S5.out.1)); ((rfl))))
  go_quiet (fail)
  go_wp2_with fail
  refine ⟨⟨rfl, rfl, rfl, rfl, rfl, j + 1, k, by omega, by show Value.int .i64 ((j : Int) + 1) = Value.int .i64 ((j + 1 : Nat) : Int); simp, by first | exact S5.out.2.own | exact (S5.out.2.own).grown (grown_drewN (grown_refl _ _) _), HI.out⟩, ?_⟩
  show len - ((j : Int) + 1).toNat < len - (j : Int).toNat
  omega
theorem asks_0b (P : Pm) (L : LL) (k : Nr) (j len cap gb go : Nat) (q : OpX) (wb wr : World) (u : Nat → Value) (Q0 : Exit → Act → World → Prop) (hP : Pok P) (hOw : Own wb wr L P k) (hI : Inv P k) (hlt : j < len) (h300 : len ≤ 300)
    (hr : wr.rangeAt gb (go + j * 29) (opc q)) (hx : 0 ≤ q.x ∧ q.x < 4294967296) (hst : 0 ≤ q.n.st) (hk0 : q.kd = 0) (hE : askE P k q.b q.y ≠ 0) (hO : askO P k q.b q.y = []) (hS : askS P k q.b q.y = k) (hR : askR P k q.b q.y = false) (hwt : k.wt = true) (hE3 : askE P k q.b q.y = 8) :
    Code.wp Tryz.prog asksBody (Exit.then (fun a' w' => AI wb L P len cap (some ⟨gb, go, none⟩) a' w' ∧ Mu len a' < Mu len ⟨#[u 0, u 1, u 2, u 3, u 4, u 5, u 6, .pointer (some ⟨L.q, 0, none⟩), u 8, u 9, u 10, u 11, u 12, u 13, u 14, u 15, u 16, u 17, u 18, u 19, u 20, u 21, u 22, u 23, u 24, u 25, u 26, u 27, u 28, u 29, u 30, u 31, u 32, u 33, u 34, u 35, u 36, u 37, .slice (some ⟨gb, go, none⟩) len cap, .int .i64 (len : Int), .int .i64 (j : Int), u 41, u 42, u 43, u 44, u 45, u 46, u 47, u 48, u 49, u 50, u 51, u 52, u 53, u 54, u 55, u 56, u 57, u 58, u 59, u 60, u 61, u 62, u 63, u 64, u 65, u 66, u 67, u 68, u 69, u 70, u 71, u 72, u 73, u 74, u 75, u 76, u 77, u 78, u 79, u 80, u 81, u 82, u 83, u 84, u 85, u 86, u 87, u 88, u 89, u 90, u 91, u 92, u 93, u 94, u 95, u 96, u 97, u 98, u 99, u 100, u 101, u 102, u 103, u 104, u 105, u 106, u 107, u 108, u 109, u 110, u 111, u 112, u 113, u 114, u 115, u 116, u 117, u 118, u 119, u 120, u 121, u 122, u 123, u 124, u 125, u 126, u 127, u 128, u 129, u 130, u 131, u 132, u 133, u 134, u 135, u 136, u 137, u 138, u 139, u 140, u 141, u 142, u 143, u 144, u 145, u 146, u 147, u 148, u 149, u 150, u 151, u 152, u 153, u 154, u 155, u 156, u 157, u 158, u 159, u 160, u 161, u 162, u 163, u 164, u 165, u 166, u 167, u 168, u 169, u 170, u 171, u 172, u 173, u 174, u 175, u 176, u 177, u 178, u 179, u 180, u 181, u 182, u 183, u 184, u 185, u 186, u 187, u 188, u 189, u 190, u 191, u 192, u 193, u 194, u 195, u 196, u 197, u 198, u 199, u 200, u 201, u 202, u 203, u 204, u 205, u 206, u 207, u 208, u 209, u 210, u 211, u 212, u 213, u 214, u 215, u 216, u 217, u 218, u 219, u 220, u 221, u 222, u 223, u 224, u 225, u 226, u 227, u 228, u 229, u 230, u 231, u 232, u 233, u 234, u 235, u 236, u 237, u 238, u 239, u 240, u 241, u 242, u 243, u 244], []⟩) Q0) ⟨#[u 0, u 1, u 2, u 3, u 4, u 5, u 6, .pointer (some ⟨L.q, 0, none⟩), u 8, u 9, u 10, u 11, u 12, u 13, u 14, u 15, u 16, u 17, u 18, u 19, u 20, u 21, u 22, u 23, u 24, u 25, u 26, u 27, u 28, u 29, u 30, u 31, u 32, u 33, u 34, u 35, u 36, u 37, .slice (some ⟨gb, go, none⟩) len cap, .int .i64 (len : Int), .int .i64 (j : Int), u 41, u 42, u 43, u 44, u 45, u 46, u 47, u 48, u 49, u 50, u 51, u 52, u 53, u 54, u 55, u 56, u 57, u 58, u 59, u 60, u 61, u 62, u 63, u 64, u 65, u 66, u 67, u 68, u 69, u 70, u 71, u 72, u 73, u 74, u 75, u 76, u 77, u 78, u 79, u 80, u 81, u 82, u 83, u 84, u 85, u 86, u 87, u 88, u 89, u 90, u 91, u 92, u 93, u 94, u 95, u 96, u 97, u 98, u 99, u 100, u 101, u 102, u 103, u 104, u 105, u 106, u 107, u 108, u 109, u 110, u 111, u 112, u 113, u 114, u 115, u 116, u 117, u 118, u 119, u 120, u 121, u 122, u 123, u 124, u 125, u 126, u 127, u 128, u 129, u 130, u 131, u 132, u 133, u 134, u 135, u 136, u 137, u 138, u 139, u 140, u 141, u 142, u 143, u 144, u 145, u 146, u 147, u 148, u 149, u 150, u 151, u 152, u 153, u 154, u 155, u 156, u 157, u 158, u 159, u 160, u 161, u 162, u 163, u 164, u 165, u 166, u 167, u 168, u 169, u 170, u 171, u 172, u 173, u 174, u 175, u 176, u 177, u 178, u 179, u 180, u 181, u 182, u 183, u 184, u 185, u 186, u 187, u 188, u 189, u 190, u 191, u 192, u 193, u 194, u 195, u 196, u 197, u 198, u 199, u 200, u 201, u 202, u 203, u 204, u 205, u 206, u 207, u 208, u 209, u 210, u 211, u 212, u 213, u 214, u 215, u 216, u 217, u 218, u 219, u 220, u 221, u 222, u 223, u 224, u 225, u 226, u 227, u 228, u 229, u 230, u 231, u 232, u 233, u 234, u 235, u 236, u 237, u 238, u 239, u 240, u 241, u 242, u 243, u 244], []⟩ wr := by
  have HO := Lib.hid hOw
  have HI := Lib.hid hI
  have HP := Lib.hid hP
  have HZO : Hid (opa opz = _) := Lib.hid opz_na
  have hj300 : j ≤ 300 := by omega
  clear hOw hI hP
  have HN := Lib.hid (St.new HO.out q)
  rw [HZO.out] at HN
  have HW1 := Lib.hid (own_waits HN.out.2.own HI.out)
  have HVN : Hid (∀ (a : Nt) (W : World) (k : Nr) (Ns : List (Nat × Nt)), St wb W L P k wr.heap.size q Ns → (W.alloc (.cells (na zn) 37)).heap[W.heap.size]? = some (.cells (na zn) 37 (0, 0)) ∧ St wb ((W.alloc (.cells (na zn) 37)).setRow W.heap.size (na a)) L P k wr.heap.size q ((W.heap.size, a) :: Ns)) := Lib.hid fun a W k Ns s => ⟨heap_alloc_new _ _, s.varN a⟩
  rw [zn_na] at HVN
  have hns := neq_self
  obtain ⟨a, ha⟩ : ∃ a, shown k = a := ⟨_, rfl⟩
  rw [ha] at HW1
  conv => arg 2; whnf
  go_upto_region 11 with (first
    | ((with_reducible refine load_op q 42 gb (go + j * 29) ?_ hr ?_); ((rfl)))
    | ((with_reducible refine store_op q 10 43 wr.heap.size ?_ ?_ HN.out.1 ?_); ((rfl)); ((rfl)))
    | (go_at_call 22; ((with_reducible refine HW1.out.mono ?_); rintro e w2 ⟨rfl, hg2⟩; have S3 := Lib.hid (HVN.out a _ _ _ (HN.out.2.grown hg2)); obtain ⟨c0, c1, c2, c3, c4, c5, c8⟩ := S3.out.2.cells; clear hg2))
    | ((with_reducible refine tt.store_any a (na zn) 11 47 w2.heap.size ?_ ?_ ?_ ?_ ?_); ((rfl)); ((rfl)); ((exact S3.out.1)); ((rfl))))
  have HKD := Lib.hid hk0
  try rw [hk0] at c0
  try rw [hk0]
  obtain ⟨t, nn, HT, hagg, hsize, hld⟩ := namedN'
  obtain ⟨ec, hec⟩ : ∃ x, askE P k q.b q.y = x := ⟨_, rfl⟩
  have HAK : Hid (∀ (W : World) (Ns : List (Nat × Nt)), St wb W L P k wr.heap.size q Ns → Calls Tryz.prog 16 #[.pointer (some ⟨L.q, 0, none⟩), .int .i64 q.b, .bool q.y] W fun e w' => ∃ s, e = .returned (.tuple #[.bool false, s, .int .i64 8]) ∧ OutN W w' s [] ∧ Own wb w' L P k ∧ Far L W w') := Lib.hid fun W Ns s => by
    have := own_ask s.own HI.out q.b q.y
    rw [hR, hO, hS, hE3] at this
    exact this
  have HW2 : Hid (∀ (W : World) (Ns : List (Nat × Nt)), St wb W L P k wr.heap.size q Ns → Calls Tryz.prog 22 #[.pointer (some ⟨L.q, 0, none⟩)] W fun e w' => e = .returned (.tuple #[.agg (na a), .bool true]) ∧ W.grownBy w' none) := Lib.hid fun W Ns s => by
    have := own_waits s.own HI.out
    rw [ha, hwt] at this
    exact this
  rw [hwt] at HW1
  try rw [hwt]
  clear ha hE hO hS hR hec hwt hk0 hE3
  go_upto_region 14 with (first
    | (go_at_call 22; ((with_reducible refine (HW2.out _ _ S4.out).mono ?_); rintro e w5 ⟨rfl, hg5⟩; have S5 := Lib.hid (HVN.out a _ _ _ (S4.out.grown hg5)); obtain ⟨c0', c1', c2', c3', c4', c5', c8'⟩ := S5.out.2.cells; clear hg5))
    | (go_at_call 16; ((with_reducible refine (HAK.out _ _ S3.out.2).mono ?_); rintro e w4 ⟨s, rfl, ho, hw, hf⟩; have S4 := Lib.hid (S3.out.2.far hw hf); obtain ⟨ad4, cap4, rfl⟩ := ho.sl.form; have OS := Lib.hid ho; clear ho hw hf))
    | ((with_reducible refine tt.store_any a (na zn) 16 66 w5.heap.size ?_ ?_ ?_ ?_ ?_); ((rfl)); ((rfl)); ((exact S5.out.1)); ((rfl))))
  have hA := hld w2.heap.size 0 a _ (S5.out.2.rangeN (.tail _ (.head _)))
  have hZ := hld w5.heap.size 0 a _ (S5.out.2.rangeN (.head _))
  rw [HT.out]
  clear hld
  go_upto_region 17 with fail
  go_quiet (fail)
  go_wp2_with fail
  refine ⟨⟨rfl, rfl, rfl, rfl, rfl, j + 1, k, by omega, by show Value.int .i64 ((j : Int) + 1) = Value.int .i64 ((j + 1 : Nat) : Int); simp, by first | exact S5.out.2.own | exact (S5.out.2.own).grown (grown_drewN (grown_refl _ _) _), HI.out⟩, ?_⟩
  show len - ((j : Int) + 1).toNat < len - (j : Int).toNat
  omega
theorem asks_0c (P : Pm) (L : LL) (k : Nr) (j len cap gb go : Nat) (q : OpX) (wb wr : World) (u : Nat → Value) (Q0 : Exit → Act → World → Prop) (hP : Pok P) (hOw : Own wb wr L P k) (hI : Inv P k) (hlt : j < len) (h300 : len ≤ 300)
    (hr : wr.rangeAt gb (go + j * 29) (opc q)) (hx : 0 ≤ q.x ∧ q.x < 4294967296) (hst : 0 ≤ q.n.st) (hk0 : q.kd = 0) (hE : askE P k q.b q.y ≠ 0) (hO : askO P k q.b q.y = []) (hS : askS P k q.b q.y = k) (hR : askR P k q.b q.y = false) (hwt : k.wt = true) (hE3 : askE P k q.b q.y = 2) :
    Code.wp Tryz.prog asksBody (Exit.then (fun a' w' => AI wb L P len cap (some ⟨gb, go, none⟩) a' w' ∧ Mu len a' < Mu len ⟨#[u 0, u 1, u 2, u 3, u 4, u 5, u 6, .pointer (some ⟨L.q, 0, none⟩), u 8, u 9, u 10, u 11, u 12, u 13, u 14, u 15, u 16, u 17, u 18, u 19, u 20, u 21, u 22, u 23, u 24, u 25, u 26, u 27, u 28, u 29, u 30, u 31, u 32, u 33, u 34, u 35, u 36, u 37, .slice (some ⟨gb, go, none⟩) len cap, .int .i64 (len : Int), .int .i64 (j : Int), u 41, u 42, u 43, u 44, u 45, u 46, u 47, u 48, u 49, u 50, u 51, u 52, u 53, u 54, u 55, u 56, u 57, u 58, u 59, u 60, u 61, u 62, u 63, u 64, u 65, u 66, u 67, u 68, u 69, u 70, u 71, u 72, u 73, u 74, u 75, u 76, u 77, u 78, u 79, u 80, u 81, u 82, u 83, u 84, u 85, u 86, u 87, u 88, u 89, u 90, u 91, u 92, u 93, u 94, u 95, u 96, u 97, u 98, u 99, u 100, u 101, u 102, u 103, u 104, u 105, u 106, u 107, u 108, u 109, u 110, u 111, u 112, u 113, u 114, u 115, u 116, u 117, u 118, u 119, u 120, u 121, u 122, u 123, u 124, u 125, u 126, u 127, u 128, u 129, u 130, u 131, u 132, u 133, u 134, u 135, u 136, u 137, u 138, u 139, u 140, u 141, u 142, u 143, u 144, u 145, u 146, u 147, u 148, u 149, u 150, u 151, u 152, u 153, u 154, u 155, u 156, u 157, u 158, u 159, u 160, u 161, u 162, u 163, u 164, u 165, u 166, u 167, u 168, u 169, u 170, u 171, u 172, u 173, u 174, u 175, u 176, u 177, u 178, u 179, u 180, u 181, u 182, u 183, u 184, u 185, u 186, u 187, u 188, u 189, u 190, u 191, u 192, u 193, u 194, u 195, u 196, u 197, u 198, u 199, u 200, u 201, u 202, u 203, u 204, u 205, u 206, u 207, u 208, u 209, u 210, u 211, u 212, u 213, u 214, u 215, u 216, u 217, u 218, u 219, u 220, u 221, u 222, u 223, u 224, u 225, u 226, u 227, u 228, u 229, u 230, u 231, u 232, u 233, u 234, u 235, u 236, u 237, u 238, u 239, u 240, u 241, u 242, u 243, u 244], []⟩) Q0) ⟨#[u 0, u 1, u 2, u 3, u 4, u 5, u 6, .pointer (some ⟨L.q, 0, none⟩), u 8, u 9, u 10, u 11, u 12, u 13, u 14, u 15, u 16, u 17, u 18, u 19, u 20, u 21, u 22, u 23, u 24, u 25, u 26, u 27, u 28, u 29, u 30, u 31, u 32, u 33, u 34, u 35, u 36, u 37, .slice (some ⟨gb, go, none⟩) len cap, .int .i64 (len : Int), .int .i64 (j : Int), u 41, u 42, u 43, u 44, u 45, u 46, u 47, u 48, u 49, u 50, u 51, u 52, u 53, u 54, u 55, u 56, u 57, u 58, u 59, u 60, u 61, u 62, u 63, u 64, u 65, u 66, u 67, u 68, u 69, u 70, u 71, u 72, u 73, u 74, u 75, u 76, u 77, u 78, u 79, u 80, u 81, u 82, u 83, u 84, u 85, u 86, u 87, u 88, u 89, u 90, u 91, u 92, u 93, u 94, u 95, u 96, u 97, u 98, u 99, u 100, u 101, u 102, u 103, u 104, u 105, u 106, u 107, u 108, u 109, u 110, u 111, u 112, u 113, u 114, u 115, u 116, u 117, u 118, u 119, u 120, u 121, u 122, u 123, u 124, u 125, u 126, u 127, u 128, u 129, u 130, u 131, u 132, u 133, u 134, u 135, u 136, u 137, u 138, u 139, u 140, u 141, u 142, u 143, u 144, u 145, u 146, u 147, u 148, u 149, u 150, u 151, u 152, u 153, u 154, u 155, u 156, u 157, u 158, u 159, u 160, u 161, u 162, u 163, u 164, u 165, u 166, u 167, u 168, u 169, u 170, u 171, u 172, u 173, u 174, u 175, u 176, u 177, u 178, u 179, u 180, u 181, u 182, u 183, u 184, u 185, u 186, u 187, u 188, u 189, u 190, u 191, u 192, u 193, u 194, u 195, u 196, u 197, u 198, u 199, u 200, u 201, u 202, u 203, u 204, u 205, u 206, u 207, u 208, u 209, u 210, u 211, u 212, u 213, u 214, u 215, u 216, u 217, u 218, u 219, u 220, u 221, u 222, u 223, u 224, u 225, u 226, u 227, u 228, u 229, u 230, u 231, u 232, u 233, u 234, u 235, u 236, u 237, u 238, u 239, u 240, u 241, u 242, u 243, u 244], []⟩ wr := by
  have HO := Lib.hid hOw
  have HI := Lib.hid hI
  have HP := Lib.hid hP
  have HZO : Hid (opa opz = _) := Lib.hid opz_na
  have hj300 : j ≤ 300 := by omega
  clear hOw hI hP
  have HN := Lib.hid (St.new HO.out q)
  rw [HZO.out] at HN
  have HW1 := Lib.hid (own_waits HN.out.2.own HI.out)
  have HVN : Hid (∀ (a : Nt) (W : World) (k : Nr) (Ns : List (Nat × Nt)), St wb W L P k wr.heap.size q Ns → (W.alloc (.cells (na zn) 37)).heap[W.heap.size]? = some (.cells (na zn) 37 (0, 0)) ∧ St wb ((W.alloc (.cells (na zn) 37)).setRow W.heap.size (na a)) L P k wr.heap.size q ((W.heap.size, a) :: Ns)) := Lib.hid fun a W k Ns s => ⟨heap_alloc_new _ _, s.varN a⟩
  rw [zn_na] at HVN
  have hns := neq_self
  obtain ⟨a, ha⟩ : ∃ a, shown k = a := ⟨_, rfl⟩
  rw [ha] at HW1
  conv => arg 2; whnf
  go_upto_region 11 with (first
    | ((with_reducible refine load_op q 42 gb (go + j * 29) ?_ hr ?_); ((rfl)))
    | ((with_reducible refine store_op q 10 43 wr.heap.size ?_ ?_ HN.out.1 ?_); ((rfl)); ((rfl)))
    | (go_at_call 22; ((with_reducible refine HW1.out.mono ?_); rintro e w2 ⟨rfl, hg2⟩; have S3 := Lib.hid (HVN.out a _ _ _ (HN.out.2.grown hg2)); obtain ⟨c0, c1, c2, c3, c4, c5, c8⟩ := S3.out.2.cells; clear hg2))
    | ((with_reducible refine tt.store_any a (na zn) 11 47 w2.heap.size ?_ ?_ ?_ ?_ ?_); ((rfl)); ((rfl)); ((exact S3.out.1)); ((rfl))))
  have HKD := Lib.hid hk0
  try rw [hk0] at c0
  try rw [hk0]
  obtain ⟨t, nn, HT, hagg, hsize, hld⟩ := namedN'
  obtain ⟨ec, hec⟩ : ∃ x, askE P k q.b q.y = x := ⟨_, rfl⟩
  have HAK : Hid (∀ (W : World) (Ns : List (Nat × Nt)), St wb W L P k wr.heap.size q Ns → Calls Tryz.prog 16 #[.pointer (some ⟨L.q, 0, none⟩), .int .i64 q.b, .bool q.y] W fun e w' => ∃ s, e = .returned (.tuple #[.bool false, s, .int .i64 2]) ∧ OutN W w' s [] ∧ Own wb w' L P k ∧ Far L W w') := Lib.hid fun W Ns s => by
    have := own_ask s.own HI.out q.b q.y
    rw [hR, hO, hS, hE3] at this
    exact this
  have HW2 : Hid (∀ (W : World) (Ns : List (Nat × Nt)), St wb W L P k wr.heap.size q Ns → Calls Tryz.prog 22 #[.pointer (some ⟨L.q, 0, none⟩)] W fun e w' => e = .returned (.tuple #[.agg (na a), .bool true]) ∧ W.grownBy w' none) := Lib.hid fun W Ns s => by
    have := own_waits s.own HI.out
    rw [ha, hwt] at this
    exact this
  rw [hwt] at HW1
  try rw [hwt]
  clear ha hE hO hS hR hec hwt hk0 hE3
  go_upto_region 14 with (first
    | (go_at_call 22; ((with_reducible refine (HW2.out _ _ S4.out).mono ?_); rintro e w5 ⟨rfl, hg5⟩; have S5 := Lib.hid (HVN.out a _ _ _ (S4.out.grown hg5)); obtain ⟨c0', c1', c2', c3', c4', c5', c8'⟩ := S5.out.2.cells; clear hg5))
    | (go_at_call 16; ((with_reducible refine (HAK.out _ _ S3.out.2).mono ?_); rintro e w4 ⟨s, rfl, ho, hw, hf⟩; have S4 := Lib.hid (S3.out.2.far hw hf); obtain ⟨ad4, cap4, rfl⟩ := ho.sl.form; have OS := Lib.hid ho; clear ho hw hf))
    | ((with_reducible refine tt.store_any a (na zn) 16 66 w5.heap.size ?_ ?_ ?_ ?_ ?_); ((rfl)); ((rfl)); ((exact S5.out.1)); ((rfl))))
  have hA := hld w2.heap.size 0 a _ (S5.out.2.rangeN (.tail _ (.head _)))
  have hZ := hld w5.heap.size 0 a _ (S5.out.2.rangeN (.head _))
  rw [HT.out]
  clear hld
  go_upto_region 17 with fail
  go_quiet (fail)
  go_wp2_with fail
  refine ⟨⟨rfl, rfl, rfl, rfl, rfl, j + 1, k, by omega, by show Value.int .i64 ((j : Int) + 1) = Value.int .i64 ((j + 1 : Nat) : Int); simp, by first | exact S5.out.2.own | exact (S5.out.2.own).grown (grown_drewN (grown_refl _ _) _), HI.out⟩, ?_⟩
  show len - ((j : Int) + 1).toNat < len - (j : Int).toNat
  omega
theorem asks_0d (P : Pm) (L : LL) (k : Nr) (j len cap gb go : Nat) (q : OpX) (wb wr : World) (u : Nat → Value) (Q0 : Exit → Act → World → Prop) (hP : Pok P) (hOw : Own wb wr L P k) (hI : Inv P k) (hlt : j < len) (h300 : len ≤ 300)
    (hr : wr.rangeAt gb (go + j * 29) (opc q)) (hx : 0 ≤ q.x ∧ q.x < 4294967296) (hst : 0 ≤ q.n.st) (hk0 : q.kd = 0) (hE : askE P k q.b q.y = 0) (hR : askR P k q.b q.y = true) (hO : askO P k q.b q.y = []) (hS : askS P k q.b q.y = k) (hwt : k.wt = false) :
    Code.wp Tryz.prog asksBody (Exit.then (fun a' w' => AI wb L P len cap (some ⟨gb, go, none⟩) a' w' ∧ Mu len a' < Mu len ⟨#[u 0, u 1, u 2, u 3, u 4, u 5, u 6, .pointer (some ⟨L.q, 0, none⟩), u 8, u 9, u 10, u 11, u 12, u 13, u 14, u 15, u 16, u 17, u 18, u 19, u 20, u 21, u 22, u 23, u 24, u 25, u 26, u 27, u 28, u 29, u 30, u 31, u 32, u 33, u 34, u 35, u 36, u 37, .slice (some ⟨gb, go, none⟩) len cap, .int .i64 (len : Int), .int .i64 (j : Int), u 41, u 42, u 43, u 44, u 45, u 46, u 47, u 48, u 49, u 50, u 51, u 52, u 53, u 54, u 55, u 56, u 57, u 58, u 59, u 60, u 61, u 62, u 63, u 64, u 65, u 66, u 67, u 68, u 69, u 70, u 71, u 72, u 73, u 74, u 75, u 76, u 77, u 78, u 79, u 80, u 81, u 82, u 83, u 84, u 85, u 86, u 87, u 88, u 89, u 90, u 91, u 92, u 93, u 94, u 95, u 96, u 97, u 98, u 99, u 100, u 101, u 102, u 103, u 104, u 105, u 106, u 107, u 108, u 109, u 110, u 111, u 112, u 113, u 114, u 115, u 116, u 117, u 118, u 119, u 120, u 121, u 122, u 123, u 124, u 125, u 126, u 127, u 128, u 129, u 130, u 131, u 132, u 133, u 134, u 135, u 136, u 137, u 138, u 139, u 140, u 141, u 142, u 143, u 144, u 145, u 146, u 147, u 148, u 149, u 150, u 151, u 152, u 153, u 154, u 155, u 156, u 157, u 158, u 159, u 160, u 161, u 162, u 163, u 164, u 165, u 166, u 167, u 168, u 169, u 170, u 171, u 172, u 173, u 174, u 175, u 176, u 177, u 178, u 179, u 180, u 181, u 182, u 183, u 184, u 185, u 186, u 187, u 188, u 189, u 190, u 191, u 192, u 193, u 194, u 195, u 196, u 197, u 198, u 199, u 200, u 201, u 202, u 203, u 204, u 205, u 206, u 207, u 208, u 209, u 210, u 211, u 212, u 213, u 214, u 215, u 216, u 217, u 218, u 219, u 220, u 221, u 222, u 223, u 224, u 225, u 226, u 227, u 228, u 229, u 230, u 231, u 232, u 233, u 234, u 235, u 236, u 237, u 238, u 239, u 240, u 241, u 242, u 243, u 244], []⟩) Q0) ⟨#[u 0, u 1, u 2, u 3, u 4, u 5, u 6, .pointer (some ⟨L.q, 0, none⟩), u 8, u 9, u 10, u 11, u 12, u 13, u 14, u 15, u 16, u 17, u 18, u 19, u 20, u 21, u 22, u 23, u 24, u 25, u 26, u 27, u 28, u 29, u 30, u 31, u 32, u 33, u 34, u 35, u 36, u 37, .slice (some ⟨gb, go, none⟩) len cap, .int .i64 (len : Int), .int .i64 (j : Int), u 41, u 42, u 43, u 44, u 45, u 46, u 47, u 48, u 49, u 50, u 51, u 52, u 53, u 54, u 55, u 56, u 57, u 58, u 59, u 60, u 61, u 62, u 63, u 64, u 65, u 66, u 67, u 68, u 69, u 70, u 71, u 72, u 73, u 74, u 75, u 76, u 77, u 78, u 79, u 80, u 81, u 82, u 83, u 84, u 85, u 86, u 87, u 88, u 89, u 90, u 91, u 92, u 93, u 94, u 95, u 96, u 97, u 98, u 99, u 100, u 101, u 102, u 103, u 104, u 105, u 106, u 107, u 108, u 109, u 110, u 111, u 112, u 113, u 114, u 115, u 116, u 117, u 118, u 119, u 120, u 121, u 122, u 123, u 124, u 125, u 126, u 127, u 128, u 129, u 130, u 131, u 132, u 133, u 134, u 135, u 136, u 137, u 138, u 139, u 140, u 141, u 142, u 143, u 144, u 145, u 146, u 147, u 148, u 149, u 150, u 151, u 152, u 153, u 154, u 155, u 156, u 157, u 158, u 159, u 160, u 161, u 162, u 163, u 164, u 165, u 166, u 167, u 168, u 169, u 170, u 171, u 172, u 173, u 174, u 175, u 176, u 177, u 178, u 179, u 180, u 181, u 182, u 183, u 184, u 185, u 186, u 187, u 188, u 189, u 190, u 191, u 192, u 193, u 194, u 195, u 196, u 197, u 198, u 199, u 200, u 201, u 202, u 203, u 204, u 205, u 206, u 207, u 208, u 209, u 210, u 211, u 212, u 213, u 214, u 215, u 216, u 217, u 218, u 219, u 220, u 221, u 222, u 223, u 224, u 225, u 226, u 227, u 228, u 229, u 230, u 231, u 232, u 233, u 234, u 235, u 236, u 237, u 238, u 239, u 240, u 241, u 242, u 243, u 244], []⟩ wr := by
  have HO := Lib.hid hOw
  have HI := Lib.hid hI
  have HP := Lib.hid hP
  have HZO : Hid (opa opz = _) := Lib.hid opz_na
  have hj300 : j ≤ 300 := by omega
  clear hOw hI hP
  have HN := Lib.hid (St.new HO.out q)
  rw [HZO.out] at HN
  have HW1 := Lib.hid (own_waits HN.out.2.own HI.out)
  have HVN : Hid (∀ (a : Nt) (W : World) (k : Nr) (Ns : List (Nat × Nt)), St wb W L P k wr.heap.size q Ns → (W.alloc (.cells (na zn) 37)).heap[W.heap.size]? = some (.cells (na zn) 37 (0, 0)) ∧ St wb ((W.alloc (.cells (na zn) 37)).setRow W.heap.size (na a)) L P k wr.heap.size q ((W.heap.size, a) :: Ns)) := Lib.hid fun a W k Ns s => ⟨heap_alloc_new _ _, s.varN a⟩
  rw [zn_na] at HVN
  have hns := neq_self
  obtain ⟨a, ha⟩ : ∃ a, shown k = a := ⟨_, rfl⟩
  rw [ha] at HW1
  conv => arg 2; whnf
  go_upto_region 11 with (first
    | ((with_reducible refine load_op q 42 gb (go + j * 29) ?_ hr ?_); ((rfl)))
    | ((with_reducible refine store_op q 10 43 wr.heap.size ?_ ?_ HN.out.1 ?_); ((rfl)); ((rfl)))
    | (go_at_call 22; ((with_reducible refine HW1.out.mono ?_); rintro e w2 ⟨rfl, hg2⟩; have S3 := Lib.hid (HVN.out a _ _ _ (HN.out.2.grown hg2)); obtain ⟨c0, c1, c2, c3, c4, c5, c8⟩ := S3.out.2.cells; clear hg2))
    | ((with_reducible refine tt.store_any a (na zn) 11 47 w2.heap.size ?_ ?_ ?_ ?_ ?_); ((rfl)); ((rfl)); ((exact S3.out.1)); ((rfl))))
  have HKD := Lib.hid hk0
  try rw [hk0] at c0
  try rw [hk0]
  obtain ⟨t, nn, HT, hagg, hsize, hld⟩ := namedN'
  have HAK : Hid (∀ (W : World) (Ns : List (Nat × Nt)), St wb W L P k wr.heap.size q Ns → Calls Tryz.prog 16 #[.pointer (some ⟨L.q, 0, none⟩), .int .i64 q.b, .bool q.y] W fun e w' => ∃ s, e = .returned (.tuple #[.bool true, s, .int .i64 0]) ∧ OutN W w' s [] ∧ Own wb w' L P k ∧ Far L W w') := Lib.hid fun W Ns s => by
    have := own_ask s.own HI.out q.b q.y
    rw [hR, hO, hS, hE] at this
    exact this
  have HW2 : Hid (∀ (W : World) (Ns : List (Nat × Nt)), St wb W L P k wr.heap.size q Ns → Calls Tryz.prog 22 #[.pointer (some ⟨L.q, 0, none⟩)] W fun e w' => e = .returned (.tuple #[.agg (na a), .bool false]) ∧ W.grownBy w' none) := Lib.hid fun W Ns s => by
    have := own_waits s.own HI.out
    rw [ha, hwt] at this
    exact this
  rw [hwt] at HW1
  try rw [hwt]
  clear ha hE hO hS hR hwt hk0 HT hld
  go_upto_region 17 with (first
    | (go_at_call 22; ((with_reducible refine (HW2.out _ _ S4.out).mono ?_); rintro e w5 ⟨rfl, hg5⟩; have S5 := Lib.hid (HVN.out a _ _ _ (S4.out.grown hg5)); obtain ⟨c0', c1', c2', c3', c4', c5', c8'⟩ := S5.out.2.cells; clear hg5))
    | (go_at_call 16; ((with_reducible refine (HAK.out _ _ S3.out.2).mono ?_); rintro e w4 ⟨s, rfl, ho, hw, hf⟩; have S4 := Lib.hid (S3.out.2.far hw hf); obtain ⟨ad4, cap4, rfl⟩ := ho.sl.form; have OS := Lib.hid ho; clear ho hw hf))
    | ((with_reducible refine tt.store_any a (na zn) 16 66 w5.heap.size ?_ ?_ ?_ ?_ ?_); ((rfl)); ((rfl)); ((exact S5.out.1)); ((rfl))))
  go_quiet (fail)
  go_wp2_with fail
  refine ⟨⟨rfl, rfl, rfl, rfl, rfl, j + 1, k, by omega, by show Value.int .i64 ((j : Int) + 1) = Value.int .i64 ((j + 1 : Nat) : Int); simp, by first | exact S5.out.2.own | exact (S5.out.2.own).grown (grown_drewN (grown_refl _ _) _), HI.out⟩, ?_⟩
  show len - ((j : Int) + 1).toNat < len - (j : Int).toNat
  omega
end Go.Proofs.YtinogiidiommkaaGreatDoor.nl
