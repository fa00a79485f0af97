/-
  The address that an instruction asks memory for, and what an instruction does: contracts. The tables are as the program's text lays them (Tab).
-/
import Derived.Test.YtmfckkioccmblaaDoorStE
import Derived.Test.YtmfckkioccmblaaDoorCdD
namespace Go.Proofs.YtmfckkioccmblaaDoor.sg
open Go Go.ChangeShapes Go.WideShapes Go.ChangeAt Go.RowKit Go.Proofs.YtmfckkioccmblaaDoor.cd
set_option linter.unusedVariables false
set_option maxRecDepth 1000000

/-- The address, and whether there is one. -/
def adr (x : List Int) (c : Cd) : Int := if may c then (if 9 ≤ c.op ∧ c.op ≤ 11 then IntKind.u32.wrap (gt x c.b + IntKind.u32.wrap c.n) else 0) else 0
def adrE (c : Cd) : Int := if may c then (if 9 ≤ c.op ∧ c.op ≤ 11 then 0 else 4) else 2
theorem addr_no (x : List Int) (op : Nat) (a b c n : Int) (w : World) (hT : Tab w) (h8 : op < 256) (hm : may ⟨op, a, b, c, n⟩ = false) : Calls Tryd.prog 9 #[.agg (row x), .agg #[.int .u8 (op : Int), .int .i64 a, .int .i64 b, .int .i64 c, .int .i64 n]] w fun e w' => e = .returned (.tuple #[.int .u32 0, .int .i64 2]) ∧ w.grownBy w' none := by
  obtain ⟨w3, hw3, hg3, hA3, hC3⟩ := boxes2 w x (op : Int) a b c n
  have HW3 := Lib.hid hw3
  have HG3 := Lib.hid hg3
  have HK := Lib.hid (keepX hA3 hC3)
  obtain ⟨_, c0, c1, c2, c3, c4⟩ := keepX hA3 hC3 _ (grown_refl _ _)
  have HM : Hid (∀ w', w.grownBy w' none → Calls Tryd.prog 17 #[.agg #[.int .u8 (op : Int), .int .i64 a, .int .i64 b, .int .i64 c, .int .i64 n]] w' fun e w2 => e = .returned (.int .i64 (err (may ⟨op, a, b, c, n⟩))) ∧ w'.grownBy w2 none) := Lib.hid fun w' h => cd.may_any ⟨op, a, b, c, n⟩ w' (hT.grown h) h8
  rw [hm] at HM
  clear hw3 hg3 hA3 hC3 hT hm h8
  go_enter Tryd.func9, Tryd.ntmps9
  go_upto_region 1 with fail
  rw [HW3.out]
  go_wp2_with (go_at_call 17; ((with_reducible refine (HM.out _ HG3.out).mono ?_); rintro e w4 ⟨rfl, hg4⟩; have HG4 := Lib.hid hg4; obtain ⟨_, c0, c1, c2, c3, c4⟩ := HK.out _ hg4; clear hg4))
  go_ret2
  exact ⟨rfl, grown_trans HG3.out HG4.out⟩
theorem addr_none (x : List Int) (op : Nat) (a b c n : Int) (w : World) (hT : Tab w) (hm : may ⟨op, a, b, c, n⟩ = true) (h8 : op < 256) (hk : ¬ (9 ≤ op ∧ op ≤ 11)) : Calls Tryd.prog 9 #[.agg (row x), .agg #[.int .u8 (op : Int), .int .i64 a, .int .i64 b, .int .i64 c, .int .i64 n]] w fun e w' => e = .returned (.tuple #[.int .u32 0, .int .i64 4]) ∧ w.grownBy w' none := by
  obtain ⟨w3, hw3, hg3, hA3, hC3⟩ := boxes2 w x (op : Int) a b c n
  have HW3 := Lib.hid hw3
  have HG3 := Lib.hid hg3
  have HK := Lib.hid (keepX hA3 hC3)
  obtain ⟨_, c0, c1, c2, c3, c4⟩ := keepX hA3 hC3 _ (grown_refl _ _)
  have HM : Hid (∀ w', w.grownBy w' none → Calls Tryd.prog 17 #[.agg #[.int .u8 (op : Int), .int .i64 a, .int .i64 b, .int .i64 c, .int .i64 n]] w' fun e w2 => e = .returned (.int .i64 (err (may ⟨op, a, b, c, n⟩))) ∧ w'.grownBy w2 none) := Lib.hid fun w' h => cd.may_any ⟨op, a, b, c, n⟩ w' (hT.grown h) h8
  rw [hm] at HM
  have e9 : ((op : Int) == 9) = false := beq_eq_false_iff_ne.2 (by omega)
  have e10 : ((op : Int) == 10) = false := beq_eq_false_iff_ne.2 (by omega)
  have e11 : ((op : Int) == 11) = false := beq_eq_false_iff_ne.2 (by omega)
  clear hw3 hg3 hA3 hC3 hT hm h8 hk
  go_enter Tryd.func9, Tryd.ntmps9
  go_upto_region 1 with fail
  rw [HW3.out]
  go_wp2_with (go_at_call 17; ((with_reducible refine (HM.out _ HG3.out).mono ?_); rintro e w4 ⟨rfl, hg4⟩; have HG4 := Lib.hid hg4; obtain ⟨_, c0, c1, c2, c3, c4⟩ := HK.out _ hg4; clear hg4))
  go_ret2
  exact ⟨rfl, grown_trans HG3.out HG4.out⟩
set_option maxHeartbeats 1000000 in
theorem addr_9 (x : List Int) (hx : x.length = 16) (a b c n : Int) (w : World) (hT : Tab w) (hm : may ⟨9, a, b, c, n⟩ = true) : Calls Tryd.prog 9 #[.agg (row x), .agg #[.int .u8 9, .int .i64 a, .int .i64 b, .int .i64 c, .int .i64 n]] w fun e w' => e = .returned (.tuple #[.int .u32 (IntKind.u32.wrap (gt x b + IntKind.u32.wrap n)), .int .i64 0]) ∧ w.grownBy w' none := by
  have h8 : 9 < 256 := by omega
  obtain ⟨w3, hw3, hg3, hA3, hC3⟩ := boxes2 w x 9 a b c n
  have HW3 := Lib.hid hw3
  have HG3 := Lib.hid hg3
  have HK := Lib.hid (keepX hA3 hC3)
  obtain ⟨_, c0, c1, c2, c3, c4⟩ := keepX hA3 hC3 _ (grown_refl _ _)
  have HM : Hid (∀ w', w.grownBy w' none → Calls Tryd.prog 17 #[.agg #[.int .u8 9, .int .i64 a, .int .i64 b, .int .i64 c, .int .i64 n]] w' fun e w2 => e = .returned (.int .i64 (err (may ⟨9, a, b, c, n⟩))) ∧ w'.grownBy w2 none) := Lib.hid fun w' h => cd.may_any ⟨9, a, b, c, n⟩ w' (hT.grown h) h8
  rw [hm] at HM
  have HGT : Hid (∀ n w, _) := Lib.hid fun n w => get_any x hx n w
  obtain ⟨t, nn, HT, hagg, hsize, hsz, hld, hst⟩ := namedR
  have hld := hld w.heap.size x hx
  clear hw3 hg3 hA3 hC3 hT hm hst hsz hx
  go_enter Tryd.func9, Tryd.ntmps9
  go_upto_region 1 with fail
  rw [HW3.out]
  go_upto_region 7 with (go_at_call 17; ((with_reducible refine (HM.out _ HG3.out).mono ?_); rintro e w4 ⟨rfl, hg4⟩; have HG4 := Lib.hid hg4; obtain ⟨_, c0, c1, c2, c3, c4⟩ := HK.out _ hg4; clear hg4))
  clear c0 c1 c2 c3 c4
  rw [HT.out.1]
  have HG4' := Lib.hid (grown_drew HG4.out)
  go_region_held3 (fun w' => w'.rangeAt w.heap.size 0 (rl x) ∧ w'.cell? ⟨w.heap.size + 1, 0, none⟩ = some (.int .u8 9) ∧ w'.cell? ⟨w.heap.size + 1, 1, none⟩ = some (.int .i64 a) ∧ w'.cell? ⟨w.heap.size + 1, 2, none⟩ = some (.int .i64 b) ∧ w'.cell? ⟨w.heap.size + 1, 3, none⟩ = some (.int .i64 c) ∧ w'.cell? ⟨w.heap.size + 1, 4, none⟩ = some (.int .i64 n))
    (first | (with_reducible exact HK.out _ HG4'.out) | (with_reducible exact HK.out _ HG4.out) | (with_reducible exact HK.out _ HG5.out))
    (first
      | (go_at_call 15; ((with_reducible refine (HGT.out _ _).mono ?_); rintro e w5 ⟨rfl, hg5⟩; have HG5 := Lib.hid (grown_trans HG4'.out hg5); clear hg5)))
  go_wp2_with fail
  go_ret2
  exact ⟨rfl, grown_trans HG3.out HG5.out⟩
set_option maxHeartbeats 1000000 in
theorem addr_10 (x : List Int) (hx : x.length = 16) (a b c n : Int) (w : World) (hT : Tab w) (hm : may ⟨10, a, b, c, n⟩ = true) : Calls Tryd.prog 9 #[.agg (row x), .agg #[.int .u8 10, .int .i64 a, .int .i64 b, .int .i64 c, .int .i64 n]] w fun e w' => e = .returned (.tuple #[.int .u32 (IntKind.u32.wrap (gt x b + IntKind.u32.wrap n)), .int .i64 0]) ∧ w.grownBy w' none := by
  have h8 : 10 < 256 := by omega
  obtain ⟨w3, hw3, hg3, hA3, hC3⟩ := boxes2 w x 10 a b c n
  have HW3 := Lib.hid hw3
  have HG3 := Lib.hid hg3
  have HK := Lib.hid (keepX hA3 hC3)
  obtain ⟨_, c0, c1, c2, c3, c4⟩ := keepX hA3 hC3 _ (grown_refl _ _)
  have HM : Hid (∀ w', w.grownBy w' none → Calls Tryd.prog 17 #[.agg #[.int .u8 10, .int .i64 a, .int .i64 b, .int .i64 c, .int .i64 n]] w' fun e w2 => e = .returned (.int .i64 (err (may ⟨10, a, b, c, n⟩))) ∧ w'.grownBy w2 none) := Lib.hid fun w' h => cd.may_any ⟨10, a, b, c, n⟩ w' (hT.grown h) h8
  rw [hm] at HM
  have HGT : Hid (∀ n w, _) := Lib.hid fun n w => get_any x hx n w
  obtain ⟨t, nn, HT, hagg, hsize, hsz, hld, hst⟩ := namedR
  have hld := hld w.heap.size x hx
  clear hw3 hg3 hA3 hC3 hT hm hst hsz hx
  go_enter Tryd.func9, Tryd.ntmps9
  go_upto_region 1 with fail
  rw [HW3.out]
  go_upto_region 7 with (go_at_call 17; ((with_reducible refine (HM.out _ HG3.out).mono ?_); rintro e w4 ⟨rfl, hg4⟩; have HG4 := Lib.hid hg4; obtain ⟨_, c0, c1, c2, c3, c4⟩ := HK.out _ hg4; clear hg4))
  clear c0 c1 c2 c3 c4
  rw [HT.out.1]
  have HG4' := Lib.hid (grown_drew HG4.out)
  go_region_held3 (fun w' => w'.rangeAt w.heap.size 0 (rl x) ∧ w'.cell? ⟨w.heap.size + 1, 0, none⟩ = some (.int .u8 10) ∧ w'.cell? ⟨w.heap.size + 1, 1, none⟩ = some (.int .i64 a) ∧ w'.cell? ⟨w.heap.size + 1, 2, none⟩ = some (.int .i64 b) ∧ w'.cell? ⟨w.heap.size + 1, 3, none⟩ = some (.int .i64 c) ∧ w'.cell? ⟨w.heap.size + 1, 4, none⟩ = some (.int .i64 n))
    (first | (with_reducible exact HK.out _ HG4'.out) | (with_reducible exact HK.out _ HG4.out) | (with_reducible exact HK.out _ HG5.out))
    (first
      | (go_at_call 15; ((with_reducible refine (HGT.out _ _).mono ?_); rintro e w5 ⟨rfl, hg5⟩; have HG5 := Lib.hid (grown_trans HG4'.out hg5); clear hg5)))
  go_wp2_with fail
  go_ret2
  exact ⟨rfl, grown_trans HG3.out HG5.out⟩
set_option maxHeartbeats 1000000 in
theorem addr_11 (x : List Int) (hx : x.length = 16) (a b c n : Int) (w : World) (hT : Tab w) (hm : may ⟨11, a, b, c, n⟩ = true) : Calls Tryd.prog 9 #[.agg (row x), .agg #[.int .u8 11, .int .i64 a, .int .i64 b, .int .i64 c, .int .i64 n]] w fun e w' => e = .returned (.tuple #[.int .u32 (IntKind.u32.wrap (gt x b + IntKind.u32.wrap n)), .int .i64 0]) ∧ w.grownBy w' none := by
  have h8 : 11 < 256 := by omega
  obtain ⟨w3, hw3, hg3, hA3, hC3⟩ := boxes2 w x 11 a b c n
  have HW3 := Lib.hid hw3
  have HG3 := Lib.hid hg3
  have HK := Lib.hid (keepX hA3 hC3)
  obtain ⟨_, c0, c1, c2, c3, c4⟩ := keepX hA3 hC3 _ (grown_refl _ _)
  have HM : Hid (∀ w', w.grownBy w' none → Calls Tryd.prog 17 #[.agg #[.int .u8 11, .int .i64 a, .int .i64 b, .int .i64 c, .int .i64 n]] w' fun e w2 => e = .returned (.int .i64 (err (may ⟨11, a, b, c, n⟩))) ∧ w'.grownBy w2 none) := Lib.hid fun w' h => cd.may_any ⟨11, a, b, c, n⟩ w' (hT.grown h) h8
  rw [hm] at HM
  have HGT : Hid (∀ n w, _) := Lib.hid fun n w => get_any x hx n w
  obtain ⟨t, nn, HT, hagg, hsize, hsz, hld, hst⟩ := namedR
  have hld := hld w.heap.size x hx
  clear hw3 hg3 hA3 hC3 hT hm hst hsz hx
  go_enter Tryd.func9, Tryd.ntmps9
  go_upto_region 1 with fail
  rw [HW3.out]
  go_upto_region 7 with (go_at_call 17; ((with_reducible refine (HM.out _ HG3.out).mono ?_); rintro e w4 ⟨rfl, hg4⟩; have HG4 := Lib.hid hg4; obtain ⟨_, c0, c1, c2, c3, c4⟩ := HK.out _ hg4; clear hg4))
  clear c0 c1 c2 c3 c4
  rw [HT.out.1]
  have HG4' := Lib.hid (grown_drew HG4.out)
  go_region_held3 (fun w' => w'.rangeAt w.heap.size 0 (rl x) ∧ w'.cell? ⟨w.heap.size + 1, 0, none⟩ = some (.int .u8 11) ∧ w'.cell? ⟨w.heap.size + 1, 1, none⟩ = some (.int .i64 a) ∧ w'.cell? ⟨w.heap.size + 1, 2, none⟩ = some (.int .i64 b) ∧ w'.cell? ⟨w.heap.size + 1, 3, none⟩ = some (.int .i64 c) ∧ w'.cell? ⟨w.heap.size + 1, 4, none⟩ = some (.int .i64 n))
    (first | (with_reducible exact HK.out _ HG4'.out) | (with_reducible exact HK.out _ HG4.out) | (with_reducible exact HK.out _ HG5.out))
    (first
      | (go_at_call 15; ((with_reducible refine (HGT.out _ _).mono ?_); rintro e w5 ⟨rfl, hg5⟩; have HG5 := Lib.hid (grown_trans HG4'.out hg5); clear hg5)))
  go_wp2_with fail
  go_ret2
  exact ⟨rfl, grown_trans HG3.out HG5.out⟩
theorem addr_any (x : List Int) (hx : x.length = 16) (c : Cd) (w : World) (hT : Tab w) (h8 : c.op < 256) : Calls Tryd.prog 9 #[.agg (row x), .agg (ca c)] w fun e w' => e = .returned (.tuple #[.int .u32 (adr x c), .int .i64 (adrE c)]) ∧ w.grownBy w' none := by
  obtain ⟨op, a, b, c, n⟩ := c
  unfold ca adr adrE
  simp only at h8 ⊢
  cases hm : may ⟨op, a, b, c, n⟩
  · exact addr_no x op a b c n w hT h8 hm
  · by_cases hk : 9 ≤ op ∧ op ≤ 11
    · rw [if_pos rfl, if_pos hk, if_pos rfl, if_pos hk]
      obtain rfl | rfl | rfl : op = 9 ∨ op = 10 ∨ op = 11 := by omega
      · exact addr_9 x hx a b c n w hT hm
      · exact addr_10 x hx a b c n w hT hm
      · exact addr_11 x hx a b c n w hT hm
    · rw [if_pos rfl, if_neg hk, if_pos rfl, if_neg hk]
      exact addr_none x op a b c n w hT hm h8 hk
end Go.Proofs.YtmfckkioccmblaaDoor.sg
