/-
  The document's own address, and what an instruction does by the document's own definition: contracts. No condition but the bounds that each theorem names.
-/
import Derived.Test.YtmfckkioccmblaaDoorStG
import Derived.Test.YtmfckkioccmblaaDoorCdH
namespace Go.Proofs.YtmfckkioccmblaaDoor.sg
open Go Go.ChangeShapes Go.WideShapes Go.ChangeAt Go.RowKit Go.Proofs.YtmfckkioccmblaaDoor.cd
set_option linter.unusedVariables false
set_option maxRecDepth 1000000

theorem raddr_no (x : List Int) (op : Nat) (a b c n : Int) (w : World) (h8 : op < 256) (hm : may ⟨op, a, b, c, n⟩ = false) : Calls Tryd.prog 12 #[.agg (row x), .agg #[.int .u8 (op : Int), .int .i64 a, .int .i64 b, .int .i64 c, .int .i64 n]] w fun e w' => e = .returned (.tuple #[.int .u32 0, .int .i64 2]) ∧ w.grownBy w' none := by
  obtain ⟨w3, hw3, hg3, hA3, hC3⟩ := boxes2 w x (op : Int) a b c n
  have HW3 := Lib.hid hw3
  have HG3 := Lib.hid hg3
  have HK := Lib.hid (keepX hA3 hC3)
  obtain ⟨_, c0, c1, c2, c3, c4⟩ := keepX hA3 hC3 _ (grown_refl _ _)
  have HM : Hid (∀ w', Calls Tryd.prog 20 #[.agg #[.int .u8 (op : Int), .int .i64 a, .int .i64 b, .int .i64 c, .int .i64 n]] w' fun e w2 => e = .returned (.bool (may ⟨op, a, b, c, n⟩)) ∧ w'.grownBy w2 none) := Lib.hid fun w' => cd.rmay_any ⟨op, a, b, c, n⟩ w' h8
  rw [hm] at HM
  clear hw3 hg3 hA3 hC3 hm h8
  go_enter Tryd.func12, Tryd.ntmps12
  go_upto_region 1 with fail
  rw [HW3.out]
  go_wp2_with (go_at_call 20; ((with_reducible refine (HM.out _).mono ?_); rintro e w4 ⟨rfl, hg4⟩; have HG4 := Lib.hid hg4; obtain ⟨_, c0, c1, c2, c3, c4⟩ := HK.out _ hg4; clear hg4))
  go_ret2
  exact ⟨rfl, grown_trans HG3.out HG4.out⟩
theorem raddr_low (x : List Int) (op : Nat) (a b c n : Int) (w : World) (hm : may ⟨op, a, b, c, n⟩ = true) (h8 : op < 256) (hk : op < 9) : Calls Tryd.prog 12 #[.agg (row x), .agg #[.int .u8 (op : Int), .int .i64 a, .int .i64 b, .int .i64 c, .int .i64 n]] w fun e w' => e = .returned (.tuple #[.int .u32 0, .int .i64 4]) ∧ w.grownBy w' none := by
  obtain ⟨w3, hw3, hg3, hA3, hC3⟩ := boxes2 w x (op : Int) a b c n
  have HW3 := Lib.hid hw3
  have HG3 := Lib.hid hg3
  have HK := Lib.hid (keepX hA3 hC3)
  obtain ⟨_, c0, c1, c2, c3, c4⟩ := keepX hA3 hC3 _ (grown_refl _ _)
  have HM : Hid (∀ w', Calls Tryd.prog 20 #[.agg #[.int .u8 (op : Int), .int .i64 a, .int .i64 b, .int .i64 c, .int .i64 n]] w' fun e w2 => e = .returned (.bool (may ⟨op, a, b, c, n⟩)) ∧ w'.grownBy w2 none) := Lib.hid fun w' => cd.rmay_any ⟨op, a, b, c, n⟩ w' h8
  rw [hm] at HM
  have e9 : decide ((op : Int) < 9) = true := decide_eq_true (by omega)
  clear hw3 hg3 hA3 hC3 hm h8 hk
  go_enter Tryd.func12, Tryd.ntmps12
  go_upto_region 1 with fail
  rw [HW3.out]
  go_wp2_with (go_at_call 20; ((with_reducible refine (HM.out _).mono ?_); rintro e w4 ⟨rfl, hg4⟩; have HG4 := Lib.hid hg4; obtain ⟨_, c0, c1, c2, c3, c4⟩ := HK.out _ hg4; clear hg4))
  go_ret2
  exact ⟨rfl, grown_trans HG3.out HG4.out⟩
theorem raddr_high (x : List Int) (op : Nat) (a b c n : Int) (w : World) (hm : may ⟨op, a, b, c, n⟩ = true) (h8 : op < 256) (hk : 11 < op) : Calls Tryd.prog 12 #[.agg (row x), .agg #[.int .u8 (op : Int), .int .i64 a, .int .i64 b, .int .i64 c, .int .i64 n]] w fun e w' => e = .returned (.tuple #[.int .u32 0, .int .i64 4]) ∧ w.grownBy w' none := by
  obtain ⟨w3, hw3, hg3, hA3, hC3⟩ := boxes2 w x (op : Int) a b c n
  have HW3 := Lib.hid hw3
  have HG3 := Lib.hid hg3
  have HK := Lib.hid (keepX hA3 hC3)
  obtain ⟨_, c0, c1, c2, c3, c4⟩ := keepX hA3 hC3 _ (grown_refl _ _)
  have HM : Hid (∀ w', Calls Tryd.prog 20 #[.agg #[.int .u8 (op : Int), .int .i64 a, .int .i64 b, .int .i64 c, .int .i64 n]] w' fun e w2 => e = .returned (.bool (may ⟨op, a, b, c, n⟩)) ∧ w'.grownBy w2 none) := Lib.hid fun w' => cd.rmay_any ⟨op, a, b, c, n⟩ w' h8
  rw [hm] at HM
  have e9 : decide ((op : Int) < 9) = false := decide_eq_false (by omega)
  have e11 : decide ((11 : Int) < (op : Int)) = true := decide_eq_true (by omega)
  clear hw3 hg3 hA3 hC3 hm h8 hk
  go_enter Tryd.func12, Tryd.ntmps12
  go_upto_region 1 with fail
  rw [HW3.out]
  go_wp2_with (go_at_call 20; ((with_reducible refine (HM.out _).mono ?_); rintro e w4 ⟨rfl, hg4⟩; have HG4 := Lib.hid hg4; obtain ⟨_, c0, c1, c2, c3, c4⟩ := HK.out _ hg4; clear hg4))
  go_ret2
  exact ⟨rfl, grown_trans HG3.out HG4.out⟩
set_option maxHeartbeats 1000000 in
theorem raddr_in (x : List Int) (hx : x.length = 16) (op : Nat) (a b c n : Int) (w : World) (hm : may ⟨op, a, b, c, n⟩ = true) (h8 : op < 256) (hk : 9 ≤ op) (hk2 : op ≤ 11) : Calls Tryd.prog 12 #[.agg (row x), .agg #[.int .u8 (op : Int), .int .i64 a, .int .i64 b, .int .i64 c, .int .i64 n]] w fun e w' => e = .returned (.tuple #[.int .u32 (IntKind.u32.wrap (gt x b + IntKind.u32.wrap n)), .int .i64 0]) ∧ w.grownBy w' none := by
  obtain ⟨w3, hw3, hg3, hA3, hC3⟩ := boxes2 w x (op : Int) a b c n
  have HW3 := Lib.hid hw3
  have HG3 := Lib.hid hg3
  have HK := Lib.hid (keepX hA3 hC3)
  obtain ⟨_, c0, c1, c2, c3, c4⟩ := keepX hA3 hC3 _ (grown_refl _ _)
  have HM : Hid (∀ w', Calls Tryd.prog 20 #[.agg #[.int .u8 (op : Int), .int .i64 a, .int .i64 b, .int .i64 c, .int .i64 n]] w' fun e w2 => e = .returned (.bool (may ⟨op, a, b, c, n⟩)) ∧ w'.grownBy w2 none) := Lib.hid fun w' => cd.rmay_any ⟨op, a, b, c, n⟩ w' h8
  rw [hm] at HM
  have HGT : Hid (∀ n w, _) := Lib.hid fun n w => rget_any x hx n w
  have HWD : Hid (∀ n w, _) := Lib.hid fun n w => rword_any n w
  obtain ⟨t, nn, HT, hagg, hsize, hsz, hld, hst⟩ := namedR
  have hld := hld w.heap.size x hx
  have e9 : decide ((op : Int) < 9) = false := decide_eq_false (by omega)
  have e11 : decide ((11 : Int) < (op : Int)) = false := decide_eq_false (by omega)
  clear hw3 hg3 hA3 hC3 hm hst hsz hx hk hk2 h8
  go_enter Tryd.func12, Tryd.ntmps12
  go_upto_region 1 with fail
  rw [HW3.out]
  go_upto_region 5 with (go_at_call 20; ((with_reducible refine (HM.out _).mono ?_); rintro e w4 ⟨rfl, hg4⟩; have HG4 := Lib.hid hg4; obtain ⟨_, c0, c1, c2, c3, c4⟩ := HK.out _ hg4; clear hg4))
  clear c0 c1 c2 c3 c4
  rw [HT.out.1]
  have HG4' := Lib.hid (grown_drew HG4.out)
  go_region_held3 (fun w' => w'.rangeAt w.heap.size 0 (rl x) ∧ w'.cell? ⟨w.heap.size + 1, 0, none⟩ = some (.int .u8 (op : Int)) ∧ w'.cell? ⟨w.heap.size + 1, 1, none⟩ = some (.int .i64 a) ∧ w'.cell? ⟨w.heap.size + 1, 2, none⟩ = some (.int .i64 b) ∧ w'.cell? ⟨w.heap.size + 1, 3, none⟩ = some (.int .i64 c) ∧ w'.cell? ⟨w.heap.size + 1, 4, none⟩ = some (.int .i64 n))
    (first | (with_reducible exact HK.out _ HG4'.out) | (with_reducible exact HK.out _ HG4.out) | (with_reducible exact HK.out _ HG5.out))
    (first
      | (go_at_call 16; ((with_reducible refine (HGT.out _ _).mono ?_); rintro e w5 ⟨rfl, hg5⟩; have HG5 := Lib.hid (grown_trans HG4'.out hg5); clear hg5))
      | (go_at_call 21; ((with_reducible refine (HWD.out _ _).mono ?_); rintro e w6 ⟨rfl, rfl⟩)))
  go_wp2_with fail
  go_ret2
  exact ⟨rfl, grown_trans HG3.out HG5.out⟩
theorem raddr_any (x : List Int) (hx : x.length = 16) (c : Cd) (w : World) (h8 : c.op < 256) : Calls Tryd.prog 12 #[.agg (row x), .agg (ca c)] w fun e w' => e = .returned (.tuple #[.int .u32 (adr x c), .int .i64 (adrE c)]) ∧ w.grownBy w' none := by
  obtain ⟨op, a, b, c, n⟩ := c
  unfold ca adr adrE
  simp only at h8 ⊢
  cases hm : may ⟨op, a, b, c, n⟩
  · exact raddr_no x op a b c n w h8 hm
  · by_cases hk : 9 ≤ op ∧ op ≤ 11
    · rw [if_pos rfl, if_pos hk, if_pos rfl, if_pos hk]
      exact raddr_in x hx op a b c n w hm h8 hk.1 hk.2
    · rw [if_pos rfl, if_neg hk, if_pos rfl, if_neg hk]
      by_cases h9 : op < 9
      · exact raddr_low x op a b c n w hm h8 h9
      · exact raddr_high x op a b c n w hm h8 (by omega)
end Go.Proofs.YtmfckkioccmblaaDoor.sg
