/-
  Rounds of the law NearTells: loads, stores, notes that arrive. Conditions: the tables of bounds and of kinds lie in their variables as the program's text has them; that the script lies where the argument says.
-/
import Derived.Test.YtinogiidiommkaaGreatDoorNtC
namespace Go.Proofs.YtinogiidiommkaaGreatDoor.nl
open Go Go.ChangeShapes Go.WideShapes Go.ChangeAt Go.RowKit Go.Shelf
open Go.Proofs.YtinogiidiommkaaGreatDoor.nr
open Go.Proofs.YtinogiidiommkaaGreatDoor.tt (OpX opc OpsAt cfg_at CfgAt Cfg Nt na nt zn bare zd fits row tyne lt_of U Tab TabK grown_refl grown_trans grown_alloc grown_setCells grown_drew grown_drewN yes Sl Next flat)
open Go.Proofs.YtinogiidiommkaaGreatDoor.kk (Ln St zl la ln cfind cdrop cuse cgoes cwrite cturn cput setAt setOf live fF Shp Cac Kept)
open Go.Proofs.YtinogiidiommkaaGreatDoor.bk (Bk rem kills puts putE fd fl Nd Rg dead fresh BkAt)
open Go.Proofs.YtinogiidiommkaaGreatDoor.mrk (Ms rdS wrS meets addE Dom MkAt)
open Go.Proofs.YtinogiidiommkaaGreatDoor.de (Dl sT gE rF aD LAt)
open Go.Proofs.YtinogiidiommkaaGreatDoor.oo (ref)
open Go.Proofs.YtinogiidiommkaaGreatDoor.gl
open Go.Proofs.YtinogiidiommkaaGreatDoor.tt (MapAt mput ik)
set_option linter.unusedVariables false
set_option linter.unusedSimpArgs false
set_option maxRecDepth 1000000
set_option maxHeartbeats 16000000

theorem row_get {d : List Int} (hd : d.length = 16) {i : Nat} (hi : i < 16) : (row d)[i]? = some (.int .u32 (d.getD i 0)) := by
  simp [tt.row, U, List.getD, List.getElem?_eq_getElem (show i < d.length by omega)]
theorem idxB (cs : Array Value) (k : Int) (v : Value) (h0 : 0 ≤ k) (h1 : k < 16) (h : cs[k.toNat]? = some v) (w : World) : (Instr.index 35 (.agg cs) (.int .i64 k)).run Tryz.prog w = .ok v w := by
  have hk : 0 ≤ k ∧ k < 16 := ⟨h0, h1⟩
  simp [Instr.index, asIntOf, part, isAgg, run_underlying Tryz.underlying35, run_underlying Tryz.underlying33, Tryz.sizeOf33, hk, h]
theorem tells_1 (P : Pm) (L : LL) (k : Nr) (F : Int → List Int) (CB M j len cap gb go : Nat) (q : OpX) (wb wr : World) (u : Nat → Value) (Q0 : Exit → Act → World → Prop) (hP : Pok P) (hcf : ∀ w', wb.grownBy w' none → CfgAt w' CB P.c) (hM0 : wb.heap.size ≤ M) (hOw : Own wb wr L P k) (hI : Inv P k) (hH : Has wr M L F) (hTl : Tel P k F) (hlt : j < len) (h300 : len ≤ 300)
    (hr : wr.rangeAt gb (go + j * 29) (opc q)) (hx : 0 ≤ q.x ∧ q.x < 4294967296) (hst : 0 ≤ q.n.st) (hk1 : q.kd = 1) (hk0 : ¬ q.kd = 0) (hk2 : ¬ q.kd = 2) (hk3 : ¬ q.kd = 3) :
    Code.wp Tryz.prog tellsBody (Exit.then (fun a' w' => TI wb L P len cap (some ⟨gb, go, none⟩) CB M a' w' ∧ Mt len a' < Mt len ⟨#[u 0, .int .i64 P.core, u 2, .pointer (some ⟨CB, 0, none⟩), u 4, u 5, u 6, .pointer (some ⟨L.q, 0, none⟩), u 8, .map (some M), u 10, u 11, u 12, u 13, u 14, u 15, u 16, u 17, u 18, u 19, u 20, u 21, u 22, u 23, u 24, u 25, u 26, u 27, u 28, u 29, u 30, u 31, u 32, u 33, u 34, u 35, u 36, u 37, u 38, u 39, u 40, .slice (some ⟨gb, go, none⟩) len cap, .int .i64 (len : Int), .int .i64 (j : Int), u 44, u 45, u 46, u 47, u 48, u 49, u 50, u 51, u 52, u 53, u 54, u 55, u 56, u 57, u 58, u 59, u 60, u 61, u 62, u 63, u 64, u 65, u 66, u 67, u 68, u 69, u 70, u 71, u 72, u 73, u 74, u 75, u 76, u 77, u 78, u 79, u 80, u 81, u 82, u 83, u 84, u 85, u 86, u 87, u 88, u 89, u 90, u 91, u 92, u 93, u 94, u 95, u 96, u 97, u 98, u 99, u 100, u 101, u 102, u 103, u 104, u 105, u 106, u 107, u 108, u 109, u 110, u 111, u 112, u 113, u 114, u 115, u 116, u 117, u 118, u 119, u 120, u 121, u 122, u 123, u 124, u 125, u 126, u 127, u 128, u 129, u 130, u 131, u 132, u 133, u 134, u 135, u 136, u 137, u 138, u 139, u 140, u 141, u 142, u 143, u 144, u 145, u 146, u 147, u 148, u 149, u 150, u 151, u 152, u 153, u 154, u 155, u 156, u 157, u 158, u 159, u 160, u 161, u 162, u 163, u 164, u 165, u 166, u 167, u 168, u 169, u 170, u 171, u 172, u 173, u 174, u 175, u 176, u 177, u 178, u 179, u 180, u 181, u 182, u 183, u 184, u 185, u 186, u 187, u 188, u 189, u 190, u 191], []⟩) Q0) ⟨#[u 0, .int .i64 P.core, u 2, .pointer (some ⟨CB, 0, none⟩), u 4, u 5, u 6, .pointer (some ⟨L.q, 0, none⟩), u 8, .map (some M), u 10, u 11, u 12, u 13, u 14, u 15, u 16, u 17, u 18, u 19, u 20, u 21, u 22, u 23, u 24, u 25, u 26, u 27, u 28, u 29, u 30, u 31, u 32, u 33, u 34, u 35, u 36, u 37, u 38, u 39, u 40, .slice (some ⟨gb, go, none⟩) len cap, .int .i64 (len : Int), .int .i64 (j : Int), u 44, u 45, u 46, u 47, u 48, u 49, u 50, u 51, u 52, u 53, u 54, u 55, u 56, u 57, u 58, u 59, u 60, u 61, u 62, u 63, u 64, u 65, u 66, u 67, u 68, u 69, u 70, u 71, u 72, u 73, u 74, u 75, u 76, u 77, u 78, u 79, u 80, u 81, u 82, u 83, u 84, u 85, u 86, u 87, u 88, u 89, u 90, u 91, u 92, u 93, u 94, u 95, u 96, u 97, u 98, u 99, u 100, u 101, u 102, u 103, u 104, u 105, u 106, u 107, u 108, u 109, u 110, u 111, u 112, u 113, u 114, u 115, u 116, u 117, u 118, u 119, u 120, u 121, u 122, u 123, u 124, u 125, u 126, u 127, u 128, u 129, u 130, u 131, u 132, u 133, u 134, u 135, u 136, u 137, u 138, u 139, u 140, u 141, u 142, u 143, u 144, u 145, u 146, u 147, u 148, u 149, u 150, u 151, u 152, u 153, u 154, u 155, u 156, u 157, u 158, u 159, u 160, u 161, u 162, u 163, u 164, u 165, u 166, u 167, u 168, u 169, u 170, u 171, u 172, u 173, u 174, u 175, u 176, u 177, u 178, u 179, u 180, u 181, u 182, u 183, u 184, u 185, u 186, u 187, u 188, u 189, u 190, u 191], []⟩ wr := by
  have HO := Lib.hid hOw
  have HI := Lib.hid hI
  have HP := Lib.hid hP
  have HT := Lib.hid hTl
  have HCF := Lib.hid hcf
  have HZO : Hid (opa opz = _) := Lib.hid opz_na
  have hj300 : j ≤ 300 := by omega
  have HN := Lib.hid (St.new HO.out q)
  obtain ⟨W, hW⟩ : ∃ z, (wr.alloc (.cells (opa opz) 65)).setCells wr.heap.size 0 (opc q) = z := ⟨_, rfl⟩
  have HHW : Hid (Has W M L F) := Lib.hid (hH.grown (hW ▸ tt.grown_new (grown_alloc (grown_refl _ _) _) (Nat.le_refl _) (grown_setCells _ _ _ _)))
  clear hOw hI hP hTl hH hcf
  rw [hW] at HN
  rw [HZO.out] at HN hW
  have S0 := Lib.hid HN.out.2
  have HW0 := Lib.hid hW
  obtain ⟨c0, c1, c2, c3, c4, c5, c8⟩ := S0.out.cells
  clear hW
  conv => arg 2; whnf
  go_upto_region 10 with (first
    | ((with_reducible refine load_op q 45 gb (go + j * 29) ?_ hr ?_); ((rfl)))
    | ((with_reducible refine store_op q 11 46 wr.heap.size ?_ ?_ ?_ ?_); ((rfl)); ((rfl)); ((exact HN.out.1))))
  rw [HW0.out]
  clear hr HN
  go_upto_region 12 with fail
  have e0 : (q.kd == 0) = false := by simpa using hk0
  have e2 : (q.kd == 2) = false := by simpa using hk2
  have e3 : (q.kd == 3) = false := by simpa using hk3
  have HI2 := Lib.hid (HI.out.loadS HP.out q.b q.w)
  have HT2 := Lib.hid (HT.out.loadS HI.out q.b q.w)
  have HCW := Lib.hid (own_load S0.out.own q.b q.w)
  have HV := HT.out.loadV q.b q.w
  obtain ⟨ec, hec⟩ : ∃ z, loadE P k q.b q.w = z := ⟨_, rfl⟩
  obtain ⟨v, hv⟩ : ∃ z, loadV P k q.b q.w = z := ⟨_, rfl⟩
  rw [hec, hv] at HV
  rw [hec, hv] at HCW
  clear hk0 hk1 hk2 hk3 hec hv
  by_cases hz : ec = 0
  · obtain ⟨hv, h0, h1⟩ := HV hz
    obtain ⟨i, hi⟩ : ∃ i : Nat, q.w = (i : Int) := ⟨q.w.toNat, by omega⟩
    have hi16 : i < 16 := by omega
    have hvi : v = (F q.b).getD i 0 := by rw [hv, hi]; simp
    subst hz
    have hrow := row_get (HHW.out.ln q.b) hi16
    rw [← hvi] at hrow
    have HROW := Lib.hid hrow
    rw [hi] at c2 HCW HI2 HT2
    clear HV hv h0 h1 hvi hrow
    go_upto_region 27 with (first
      | (go_at_call 19; ((with_reducible refine HCW.out.mono ?_); rintro e w4 ⟨rfl, hw, hf⟩; have S4 := Lib.hid (S0.out.far hw hf); have H4 := Lib.hid (HHW.out.far hf); clear hw hf)))
    obtain ⟨c0', c1', c2', c3', c4', c5', c8'⟩ := S4.out.cells
    rw [hi] at c2'
    have hlk := H4.out.look q.b
    have hrow := HROW.out
    obtain ⟨D, hD⟩ : ∃ z, row (F q.b) = z := ⟨_, rfl⟩
    rw [hD] at hlk hrow
    have hix := idxB D (i : Int) _ (by omega) (by omega) hrow w4
    clear hD hrow
    go_upto_region 29 with fail
    refine tells_tail wb w4 L P (loadS P k q.b (i : Int)) F CB M len j cap _ (some ⟨gb, go, none⟩) _ _ Q0 [] _ _ HP.out HCF.out S4.out.own HI2.out H4.out HT2.out hlt h300 ?hm (by intro x hx; cases hx) (OutN.nil wb w4).sl (by simp) (by assumption) _ (by assumption) _ (by assumption) _ ?_ ?_ ?_ ?_ ?_ ?_ ?_ ?_ ?_ ?_
    case hm =>
      show len - (j + 1) < len - (j : Int).toNat
      omega
    all_goals rfl
  · have ez : (ec == 0) = false := by simpa using hz
    clear hz HV
    go_upto_region 29 with (first
      | (go_at_call 19; ((with_reducible refine HCW.out.mono ?_); rintro e w4 ⟨rfl, hw, hf⟩; have S4 := Lib.hid (S0.out.far hw hf); have H4 := Lib.hid (HHW.out.far hf); clear hw hf)))
    refine tells_tail wb w4 L P (loadS P k q.b q.w) F CB M len j cap _ (some ⟨gb, go, none⟩) _ _ Q0 [] _ _ HP.out HCF.out S4.out.own HI2.out H4.out HT2.out hlt h300 ?hm (by intro x hx; cases hx) (OutN.nil wb w4).sl (by simp) (by assumption) _ (by assumption) _ (by assumption) _ ?_ ?_ ?_ ?_ ?_ ?_ ?_ ?_ ?_ ?_
    case hm =>
      show len - (j + 1) < len - (j : Int).toNat
      omega
    all_goals rfl
theorem row_set (d : List Int) (i : Nat) (x : Int) : (row d).setIfInBounds i (.int .u32 x) = row (d.set i x) := by
  unfold tt.row
  simp [List.map_set, U]
theorem block_range {w : World} {g : Nat} {d : List Int} (h : w.heap[g]? = some (.cells (row d) 35 (0, 0))) : w.rangeAt g 0 (d.map U) := fun j v hv => by
  rw [Nat.zero_add, cell_of_row _ _ j _ _ _ h]
  simpa [tt.row] using hv
theorem tells_2 (P : Pm) (L : LL) (k : Nr) (F : Int → List Int) (CB M j len cap gb go : Nat) (q : OpX) (wb wr : World) (u : Nat → Value) (Q0 : Exit → Act → World → Prop) (hP : Pok P) (hcf : ∀ w', wb.grownBy w' none → CfgAt w' CB P.c) (hM0 : wb.heap.size ≤ M) (hOw : Own wb wr L P k) (hI : Inv P k) (hH : Has wr M L F) (hTl : Tel P k F) (hlt : j < len) (h300 : len ≤ 300)
    (hr : wr.rangeAt gb (go + j * 29) (opc q)) (hx : 0 ≤ q.x ∧ q.x < 4294967296) (hst : 0 ≤ q.n.st) (hk2 : q.kd = 2) (hk0 : ¬ q.kd = 0) :
    Code.wp Tryz.prog tellsBody (Exit.then (fun a' w' => TI wb L P len cap (some ⟨gb, go, none⟩) CB M a' w' ∧ Mt len a' < Mt len ⟨#[u 0, .int .i64 P.core, u 2, .pointer (some ⟨CB, 0, none⟩), u 4, u 5, u 6, .pointer (some ⟨L.q, 0, none⟩), u 8, .map (some M), u 10, u 11, u 12, u 13, u 14, u 15, u 16, u 17, u 18, u 19, u 20, u 21, u 22, u 23, u 24, u 25, u 26, u 27, u 28, u 29, u 30, u 31, u 32, u 33, u 34, u 35, u 36, u 37, u 38, u 39, u 40, .slice (some ⟨gb, go, none⟩) len cap, .int .i64 (len : Int), .int .i64 (j : Int), u 44, u 45, u 46, u 47, u 48, u 49, u 50, u 51, u 52, u 53, u 54, u 55, u 56, u 57, u 58, u 59, u 60, u 61, u 62, u 63, u 64, u 65, u 66, u 67, u 68, u 69, u 70, u 71, u 72, u 73, u 74, u 75, u 76, u 77, u 78, u 79, u 80, u 81, u 82, u 83, u 84, u 85, u 86, u 87, u 88, u 89, u 90, u 91, u 92, u 93, u 94, u 95, u 96, u 97, u 98, u 99, u 100, u 101, u 102, u 103, u 104, u 105, u 106, u 107, u 108, u 109, u 110, u 111, u 112, u 113, u 114, u 115, u 116, u 117, u 118, u 119, u 120, u 121, u 122, u 123, u 124, u 125, u 126, u 127, u 128, u 129, u 130, u 131, u 132, u 133, u 134, u 135, u 136, u 137, u 138, u 139, u 140, u 141, u 142, u 143, u 144, u 145, u 146, u 147, u 148, u 149, u 150, u 151, u 152, u 153, u 154, u 155, u 156, u 157, u 158, u 159, u 160, u 161, u 162, u 163, u 164, u 165, u 166, u 167, u 168, u 169, u 170, u 171, u 172, u 173, u 174, u 175, u 176, u 177, u 178, u 179, u 180, u 181, u 182, u 183, u 184, u 185, u 186, u 187, u 188, u 189, u 190, u 191], []⟩) Q0) ⟨#[u 0, .int .i64 P.core, u 2, .pointer (some ⟨CB, 0, none⟩), u 4, u 5, u 6, .pointer (some ⟨L.q, 0, none⟩), u 8, .map (some M), u 10, u 11, u 12, u 13, u 14, u 15, u 16, u 17, u 18, u 19, u 20, u 21, u 22, u 23, u 24, u 25, u 26, u 27, u 28, u 29, u 30, u 31, u 32, u 33, u 34, u 35, u 36, u 37, u 38, u 39, u 40, .slice (some ⟨gb, go, none⟩) len cap, .int .i64 (len : Int), .int .i64 (j : Int), u 44, u 45, u 46, u 47, u 48, u 49, u 50, u 51, u 52, u 53, u 54, u 55, u 56, u 57, u 58, u 59, u 60, u 61, u 62, u 63, u 64, u 65, u 66, u 67, u 68, u 69, u 70, u 71, u 72, u 73, u 74, u 75, u 76, u 77, u 78, u 79, u 80, u 81, u 82, u 83, u 84, u 85, u 86, u 87, u 88, u 89, u 90, u 91, u 92, u 93, u 94, u 95, u 96, u 97, u 98, u 99, u 100, u 101, u 102, u 103, u 104, u 105, u 106, u 107, u 108, u 109, u 110, u 111, u 112, u 113, u 114, u 115, u 116, u 117, u 118, u 119, u 120, u 121, u 122, u 123, u 124, u 125, u 126, u 127, u 128, u 129, u 130, u 131, u 132, u 133, u 134, u 135, u 136, u 137, u 138, u 139, u 140, u 141, u 142, u 143, u 144, u 145, u 146, u 147, u 148, u 149, u 150, u 151, u 152, u 153, u 154, u 155, u 156, u 157, u 158, u 159, u 160, u 161, u 162, u 163, u 164, u 165, u 166, u 167, u 168, u 169, u 170, u 171, u 172, u 173, u 174, u 175, u 176, u 177, u 178, u 179, u 180, u 181, u 182, u 183, u 184, u 185, u 186, u 187, u 188, u 189, u 190, u 191], []⟩ wr := by
  have HO := Lib.hid hOw
  have HI := Lib.hid hI
  have HP := Lib.hid hP
  have HT := Lib.hid hTl
  have HCF := Lib.hid hcf
  have HZO : Hid (opa opz = _) := Lib.hid opz_na
  have hj300 : j ≤ 300 := by omega
  have HN := Lib.hid (St.new HO.out q)
  obtain ⟨W, hW⟩ : ∃ z, (wr.alloc (.cells (opa opz) 65)).setCells wr.heap.size 0 (opc q) = z := ⟨_, rfl⟩
  have HHW : Hid (Has W M L F) := Lib.hid (hH.grown (hW ▸ tt.grown_new (grown_alloc (grown_refl _ _) _) (Nat.le_refl _) (grown_setCells _ _ _ _)))
  clear hOw hI hP hTl hH hcf
  rw [hW] at HN
  rw [HZO.out] at HN hW
  have S0 := Lib.hid HN.out.2
  have HW0 := Lib.hid hW
  obtain ⟨c0, c1, c2, c3, c4, c5, c8⟩ := S0.out.cells
  clear hW
  conv => arg 2; whnf
  go_upto_region 10 with (first
    | ((with_reducible refine load_op q 45 gb (go + j * 29) ?_ hr ?_); ((rfl)))
    | ((with_reducible refine store_op q 11 46 wr.heap.size ?_ ?_ ?_ ?_); ((rfl)); ((rfl)); ((exact HN.out.1))))
  rw [HW0.out]
  clear hr HN
  go_upto_region 12 with fail
  have e0 : (q.kd == 0) = false := by simpa using hk0
  have HI2 := Lib.hid (HI.out.storeS HP.out q.b q.w q.x)
  have HCW := Lib.hid (own_store S0.out.own q.b q.w q.x)
  have HTS := fun h => HT.out.storeS HI.out q.b q.w q.x h
  have HTN := fun h => HT.out.storeS_no q.b q.w q.x h
  have hze := fun h => storeE_zero (P := P) (k := k) (b := q.b) (i := q.w) (x := q.x) h
  obtain ⟨ec, hec⟩ : ∃ z, storeE P k q.b q.w q.x = z := ⟨_, rfl⟩
  obtain ⟨k2, hk2e⟩ : ∃ z, storeS P k q.b q.w q.x = z := ⟨_, rfl⟩
  rw [hec] at HCW HTS HTN hze
  rw [hk2e] at HCW HTS HTN HI2
  clear hk0 hk2 hec hk2e
  by_cases hz : ec = 0
  · obtain ⟨l, _, h0, h1, _⟩ := hze hz
    have HT2 := Lib.hid (HTS hz)
    obtain ⟨i, hi⟩ : ∃ i : Nat, q.w = (i : Int) := ⟨q.w.toNat, by omega⟩
    have hi16 : i < 16 := by omega
    subst hz
    rw [hi] at c2 HCW HT2
    rw [show ((i : Int)).toNat = i from Int.toNat_natCast i] at HT2
    clear HTS HTN hze h0 h1
    go_upto_region 17 with (first
      | (go_at_call 15; ((with_reducible refine HCW.out.mono ?_); rintro e w4 ⟨rfl, hw, hf⟩; have S4 := Lib.hid (S0.out.far hw hf); have H4 := Lib.hid (HHW.out.far hf); clear hw hf)))
    obtain ⟨c0', c1', c2', c3', c4', c5', c8'⟩ := S4.out.cells
    rw [hi] at c2'
    have hlk := H4.out.look q.b
    have hln := H4.out.ln q.b
    obtain ⟨d, hd⟩ : ∃ z, F q.b = z := ⟨_, rfl⟩
    rw [hd] at hlk hln HT2
    go_upto_region 18 with (first
      | ((with_reducible refine store_bZ d hln 15 79 ?_ ?_ ?_); ((rfl)); ((rfl))))
    have hg5 : w4.grownBy (w4.alloc (.cells (row d) 35)) none := grown_alloc (grown_refl _ _) _
    have hb5 := heap_alloc_new w4 (.cells (row d) 35)
    obtain ⟨B, hB⟩ : ∃ z, w4.heap.size = z := ⟨_, rfl⟩
    have hBX : wr.heap.size < B := by rw [← hB]; exact lt_of S4.out.bx
    rw [hB] at hb5 ⊢
    obtain ⟨W5, hW5⟩ : ∃ z, w4.alloc (.cells (row d) 35) = z := ⟨_, rfl⟩
    rw [hW5] at hg5 hb5 ⊢
    have S5 := Lib.hid (S4.out.grown hg5)
    have H5 := Lib.hid (H4.out.grown hg5)
    obtain ⟨d0, d1, d2, d3, d4, d5, d8⟩ := S5.out.cells
    rw [hi] at d2
    have hcB : W5.cell? ⟨B, i, none⟩ = some (.int .u32 (d.getD i 0)) := (cell_of_row _ _ _ _ _ _ hb5).trans (row_get hln hi16)
    have hfB : W5.frozen? ⟨B, i, none⟩ = false := frozen_of_row _ _ _ _ _ hb5
    obtain ⟨W6, hW6⟩ : ∃ z, W5.setCell ⟨B, i, none⟩ (.int .u32 q.x) = z := ⟨_, rfl⟩
    have hb6 : W6.heap[B]? = some (.cells (row (d.set i q.x)) 35 (0, 0)) := by
      rw [← hW6, heap_setCell_same _ _ _ _ _ _ hb5, row_set]
    have hoth : ∀ g, g ≠ B → W6.heap[g]? = W5.heap[g]? := fun g hg => by rw [← hW6]; exact heap_setCell_other _ _ _ _ hg
    have hg6 : w4.grownBy W6 none := by
      rw [← hW6]
      exact ⟨hg5.os, hg5.tape, hg5.output, by have := hg5.size; simp; omega, fun g hg hn => (heap_setCell_other _ _ _ _ (by show g ≠ B; omega)).trans (hg5.block g hg hn)⟩
    have S6 := Lib.hid (S4.out.grown hg6)
    have H6 := Lib.hid (H4.out.grown hg6)
    clear hW5 hoth hg5
    go_upto_region 19 with fail
    try rw [hW6]
    clear d0 d1 d2 d3 d4 d5 d8 hcB hfB hW6 hb5
    obtain ⟨f0, f1, f2, f3, f4, f5, f8⟩ := S6.out.cells
    have hrB := block_range hb6
    have hl2 : (d.set i q.x).length = 16 := by rw [List.length_set]; exact hln
    go_upto_region 29 with (first
      | ((with_reducible refine load_b (d.set i q.x) hl2 15 B 0 ?_ hrB ?_); ((rfl)))
      | ((with_reducible refine store_has H6.out (d.set i q.x) hl2 q.b 85 87 88 ?_ ?_ ?_ ?_); ((rfl)); ((rfl)); ((rfl)); (intro w7 hh7 hg7; have S7 := Lib.hid (S6.out.map hg7 H6.out.tz H6.out.nm hM0); have H7 := Lib.hid hh7; clear hh7 hg7)))
    refine tells_tail wb w7 L P k2 (fun y => if y = q.b then d.set i q.x else F y) CB M len j cap _ (some ⟨gb, go, none⟩) _ _ Q0 [] _ _ HP.out HCF.out S7.out.own HI2.out H7.out HT2.out hlt h300 ?hm (by intro x hx; cases hx) (OutN.nil wb w7).sl (by simp) (by assumption) _ (by assumption) _ (by assumption) _ ?_ ?_ ?_ ?_ ?_ ?_ ?_ ?_ ?_ ?_
    case hm =>
      show len - (j + 1) < len - (j : Int).toNat
      omega
    all_goals rfl
  · have ez : (ec == 0) = false := by simpa using hz
    have HT2 := Lib.hid (HTN hz)
    clear hz HTS HTN hze
    go_upto_region 29 with (first
      | (go_at_call 15; ((with_reducible refine HCW.out.mono ?_); rintro e w4 ⟨rfl, hw, hf⟩; have S4 := Lib.hid (S0.out.far hw hf); have H4 := Lib.hid (HHW.out.far hf); clear hw hf)))
    refine tells_tail wb w4 L P k2 F CB M len j cap _ (some ⟨gb, go, none⟩) _ _ Q0 [] _ _ HP.out HCF.out S4.out.own HI2.out H4.out HT2.out hlt h300 ?hm (by intro x hx; cases hx) (OutN.nil wb w4).sl (by simp) (by assumption) _ (by assumption) _ (by assumption) _ ?_ ?_ ?_ ?_ ?_ ?_ ?_ ?_ ?_ ?_
    case hm =>
      show len - (j + 1) < len - (j : Int).toNat
      omega
    all_goals rfl
theorem sl_map {w w' : World} {M : Nat} {s : Value} {l : List Nt} (h : SlN w s l) (hg : w.grownBy w' (some M)) (hz : tz w M) : SlN w' s l := h.of_block fun g hgo => hg.block g (h.lt g hgo) (by
  intro e
  cases e
  obtain ⟨cur, hc⟩ := h.type _ hgo
  obtain ⟨es, cl, hm⟩ := hz
  rw [hm] at hc
  cases hc)
theorem tells_3 (P : Pm) (L : LL) (k : Nr) (F : Int → List Int) (CB M j len cap gb go : Nat) (q : OpX) (wb wr : World) (u : Nat → Value) (Q0 : Exit → Act → World → Prop) (hP : Pok P) (hcf : ∀ w', wb.grownBy w' none → CfgAt w' CB P.c) (hM0 : wb.heap.size ≤ M) (hOw : Own wb wr L P k) (hI : Inv P k) (hH : Has wr M L F) (hTl : Tel P k F) (hlt : j < len) (h300 : len ≤ 300)
    (hr : wr.rangeAt gb (go + j * 29) (opc q)) (hx : 0 ≤ q.x ∧ q.x < 4294967296) (hst : 0 ≤ q.n.st) (hk3 : q.kd = 3) (hk0 : ¬ q.kd = 0) (hk2 : ¬ q.kd = 2) :
    Code.wp Tryz.prog tellsBody (Exit.then (fun a' w' => TI wb L P len cap (some ⟨gb, go, none⟩) CB M a' w' ∧ Mt len a' < Mt len ⟨#[u 0, .int .i64 P.core, u 2, .pointer (some ⟨CB, 0, none⟩), u 4, u 5, u 6, .pointer (some ⟨L.q, 0, none⟩), u 8, .map (some M), u 10, u 11, u 12, u 13, u 14, u 15, u 16, u 17, u 18, u 19, u 20, u 21, u 22, u 23, u 24, u 25, u 26, u 27, u 28, u 29, u 30, u 31, u 32, u 33, u 34, u 35, u 36, u 37, u 38, u 39, u 40, .slice (some ⟨gb, go, none⟩) len cap, .int .i64 (len : Int), .int .i64 (j : Int), u 44, u 45, u 46, u 47, u 48, u 49, u 50, u 51, u 52, u 53, u 54, u 55, u 56, u 57, u 58, u 59, u 60, u 61, u 62, u 63, u 64, u 65, u 66, u 67, u 68, u 69, u 70, u 71, u 72, u 73, u 74, u 75, u 76, u 77, u 78, u 79, u 80, u 81, u 82, u 83, u 84, u 85, u 86, u 87, u 88, u 89, u 90, u 91, u 92, u 93, u 94, u 95, u 96, u 97, u 98, u 99, u 100, u 101, u 102, u 103, u 104, u 105, u 106, u 107, u 108, u 109, u 110, u 111, u 112, u 113, u 114, u 115, u 116, u 117, u 118, u 119, u 120, u 121, u 122, u 123, u 124, u 125, u 126, u 127, u 128, u 129, u 130, u 131, u 132, u 133, u 134, u 135, u 136, u 137, u 138, u 139, u 140, u 141, u 142, u 143, u 144, u 145, u 146, u 147, u 148, u 149, u 150, u 151, u 152, u 153, u 154, u 155, u 156, u 157, u 158, u 159, u 160, u 161, u 162, u 163, u 164, u 165, u 166, u 167, u 168, u 169, u 170, u 171, u 172, u 173, u 174, u 175, u 176, u 177, u 178, u 179, u 180, u 181, u 182, u 183, u 184, u 185, u 186, u 187, u 188, u 189, u 190, u 191], []⟩) Q0) ⟨#[u 0, .int .i64 P.core, u 2, .pointer (some ⟨CB, 0, none⟩), u 4, u 5, u 6, .pointer (some ⟨L.q, 0, none⟩), u 8, .map (some M), u 10, u 11, u 12, u 13, u 14, u 15, u 16, u 17, u 18, u 19, u 20, u 21, u 22, u 23, u 24, u 25, u 26, u 27, u 28, u 29, u 30, u 31, u 32, u 33, u 34, u 35, u 36, u 37, u 38, u 39, u 40, .slice (some ⟨gb, go, none⟩) len cap, .int .i64 (len : Int), .int .i64 (j : Int), u 44, u 45, u 46, u 47, u 48, u 49, u 50, u 51, u 52, u 53, u 54, u 55, u 56, u 57, u 58, u 59, u 60, u 61, u 62, u 63, u 64, u 65, u 66, u 67, u 68, u 69, u 70, u 71, u 72, u 73, u 74, u 75, u 76, u 77, u 78, u 79, u 80, u 81, u 82, u 83, u 84, u 85, u 86, u 87, u 88, u 89, u 90, u 91, u 92, u 93, u 94, u 95, u 96, u 97, u 98, u 99, u 100, u 101, u 102, u 103, u 104, u 105, u 106, u 107, u 108, u 109, u 110, u 111, u 112, u 113, u 114, u 115, u 116, u 117, u 118, u 119, u 120, u 121, u 122, u 123, u 124, u 125, u 126, u 127, u 128, u 129, u 130, u 131, u 132, u 133, u 134, u 135, u 136, u 137, u 138, u 139, u 140, u 141, u 142, u 143, u 144, u 145, u 146, u 147, u 148, u 149, u 150, u 151, u 152, u 153, u 154, u 155, u 156, u 157, u 158, u 159, u 160, u 161, u 162, u 163, u 164, u 165, u 166, u 167, u 168, u 169, u 170, u 171, u 172, u 173, u 174, u 175, u 176, u 177, u 178, u 179, u 180, u 181, u 182, u 183, u 184, u 185, u 186, u 187, u 188, u 189, u 190, u 191], []⟩ wr := by
  have HO := Lib.hid hOw
  have HI := Lib.hid hI
  have HP := Lib.hid hP
  have HT := Lib.hid hTl
  have HCF := Lib.hid hcf
  have HZO : Hid (opa opz = _) := Lib.hid opz_na
  have hj300 : j ≤ 300 := by omega
  have HN := Lib.hid (St.new HO.out q)
  obtain ⟨W, hW⟩ : ∃ z, (wr.alloc (.cells (opa opz) 65)).setCells wr.heap.size 0 (opc q) = z := ⟨_, rfl⟩
  have HHW : Hid (Has W M L F) := Lib.hid (hH.grown (hW ▸ tt.grown_new (grown_alloc (grown_refl _ _) _) (Nat.le_refl _) (grown_setCells _ _ _ _)))
  clear hOw hI hP hTl hH hcf
  rw [hW] at HN
  rw [HZO.out] at HN hW
  have S0 := Lib.hid HN.out.2
  have HW0 := Lib.hid hW
  obtain ⟨c0, c1, c2, c3, c4, c5, c8⟩ := S0.out.cells
  clear hW
  conv => arg 2; whnf
  go_upto_region 10 with (first
    | ((with_reducible refine load_op q 45 gb (go + j * 29) ?_ hr ?_); ((rfl)))
    | ((with_reducible refine store_op q 11 46 wr.heap.size ?_ ?_ ?_ ?_); ((rfl)); ((rfl)); ((exact HN.out.1))))
  rw [HW0.out]
  clear hr HN
  go_upto_region 12 with fail
  have e0 : (q.kd == 0) = false := by simpa using hk0
  have e2 : (q.kd == 2) = false := by simpa using hk2
  have HI2 := Lib.hid (HI.out.takeS HP.out (n := q.n))
  have HT2 := Lib.hid (HT.out.takeS HP.out HI.out (n := q.n))
  have HCW := Lib.hid (own_take S0.out.own HI.out HP.out q.n)
  have HSD : Hid (Said P (telF P k F q.n) (takeO P k q.n)) := Lib.hid fun x hx => ⟨(take_from hx).1, (take_from hx).2, fun h => HT.out.takeO HI.out hx h⟩
  have HLEN := Lib.hid (takeO_len' P k q.n)
  have htf : telF P k F q.n = if takeE P k q.n = 0 ∧ q.n.k = 6 then (fun y => if y = q.n.b then q.n.d else F y) else F := rfl
  obtain ⟨ec, hec⟩ : ∃ z, takeE P k q.n = z := ⟨_, rfl⟩
  obtain ⟨k2, hk2e⟩ : ∃ z, takeS P k q.n = z := ⟨_, rfl⟩
  obtain ⟨lo, hlo⟩ : ∃ z, takeO P k q.n = z := ⟨_, rfl⟩
  rw [hec] at HCW htf
  rw [hk2e] at HCW HT2 HI2
  rw [hlo] at HCW HSD HLEN
  have rq := S0.out.note
  clear hk0 hk2 hk3 hec hk2e hlo
  go_upto_region 23 with (first
    | ((with_reducible refine load_o q.n 93 wr.heap.size 5 ?_ rq ?_); ((rfl)))
    | (go_at_call 20; ((with_reducible refine HCW.out.mono ?_); rintro e w4 ⟨s, rfl, ho, hw, hf⟩; have S4 := Lib.hid (S0.out.far hw hf); have H4 := Lib.hid (HHW.out.far hf); obtain ⟨ad4, cap4, rfl⟩ := ho.sl.form; have OS := Lib.hid ho; clear ho hw hf)))
  obtain ⟨c0', c1', c2', c3', c4', c5', c8'⟩ := S4.out.cells
  clear rq
  by_cases hz : ec = 0
  · subst hz
    by_cases h6 : q.n.k = 6
    · rw [if_pos ⟨rfl, h6⟩] at htf
      rw [htf] at HT2 HSD
      rw [h6] at c5'
      have hrd := sub_range S4.out.note
      clear htf h6
      go_upto_region 29 with (first
        | ((with_reducible refine load_b q.n.d q.n.hd 112 wr.heap.size (5 + 8) ?_ hrd ?_); ((rfl)))
        | ((with_reducible refine store_has H4.out q.n.d q.n.hd q.n.b 107 110 113 ?_ ?_ ?_ ?_); ((rfl)); ((rfl)); ((rfl)); (intro w7 hh7 hg7; have S7 := Lib.hid (S4.out.map hg7 H4.out.tz H4.out.nm hM0); have H7 := Lib.hid hh7; have OS7 := Lib.hid (sl_map OS.out.sl hg7 H4.out.tz); clear hh7 hg7)))
      refine tells_tail wb w7 L P k2 (fun y => if y = q.n.b then q.n.d else F y) CB M len j cap _ (some ⟨gb, go, none⟩) _ _ Q0 lo _ _ HP.out HCF.out S7.out.own HI2.out H7.out HT2.out hlt h300 ?hm HSD.out OS7.out HLEN.out (by assumption) _ (by assumption) _ (by assumption) _ ?_ ?_ ?_ ?_ ?_ ?_ ?_ ?_ ?_ ?_
      case hm =>
        show len - (j + 1) < len - (j : Int).toNat
        omega
      all_goals rfl
    · rw [if_neg (fun h => h6 h.2)] at htf
      rw [htf] at HT2 HSD
      have e6 : (q.n.k == 6) = false := by simpa using h6
      clear htf h6
      go_upto_region 29 with fail
      refine tells_tail wb w4 L P k2 F CB M len j cap _ (some ⟨gb, go, none⟩) _ _ Q0 lo _ _ HP.out HCF.out S4.out.own HI2.out H4.out HT2.out hlt h300 ?hm HSD.out OS.out.sl HLEN.out (by assumption) _ (by assumption) _ (by assumption) _ ?_ ?_ ?_ ?_ ?_ ?_ ?_ ?_ ?_ ?_
      case hm =>
        show len - (j + 1) < len - (j : Int).toNat
        omega
      all_goals rfl
  · rw [if_neg (fun h => hz h.1)] at htf
    rw [htf] at HT2 HSD
    have ez : (ec == 0) = false := by simpa using hz
    clear htf hz
    go_upto_region 29 with fail
    refine tells_tail wb w4 L P k2 F CB M len j cap _ (some ⟨gb, go, none⟩) _ _ Q0 lo _ _ HP.out HCF.out S4.out.own HI2.out H4.out HT2.out hlt h300 ?hm HSD.out OS.out.sl HLEN.out (by assumption) _ (by assumption) _ (by assumption) _ ?_ ?_ ?_ ?_ ?_ ?_ ?_ ?_ ?_ ?_
    case hm =>
      show len - (j + 1) < len - (j : Int).toNat
      omega
    all_goals rfl
end Go.Proofs.YtinogiidiommkaaGreatDoor.nl
