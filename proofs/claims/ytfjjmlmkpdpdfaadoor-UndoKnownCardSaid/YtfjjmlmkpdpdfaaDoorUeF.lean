/-
  The landed log: works; what no log answers. Condition: the table of bounds lies in its variable as the program's text has it.
-/
import Derived.Test.YtfjjmlmkpdpdfaaDoorUeE
namespace Go.Proofs.YtfjjmlmkpdpdfaaDoor.ud
open Go Go.ChangeShapes Go.WideShapes Go.ChangeAt Go.RowKit
open Go.Proofs.YtfjjmlmkpdpdfaaDoor.tt (Cfg Tab trip CfgAt cfg_at)
open Go.Proofs.YtfjjmlmkpdpdfaaDoor.pp (RMem Mem grown_refl grown_trans grown_alloc getW inn setW zero)
set_option linter.unusedVariables false
set_option maxRecDepth 1000000

def c2 : Cfg := ⟨2, 2, 2, 10, 1, 1, 1, 0⟩
theorem c2_may : c2.may := by decide +kernel
theorem two_any (w : World) : Calls Tryd.prog 10 #[] w fun e w' => e = .returned (.agg c2.cells) ∧ w.grownBy w' none := by
  go_enter Tryd.func10, Tryd.ntmps10
  go_wp2
  refine bodyPost_ret (v := .agg c2.cells) (results_cell_row rfl _ _ w.heap.size 30 c2.cells (0, 0) _ rfl (heap_alloc_new _ _) Tryd.underlying30 rfl (by kernel_rfl)) rfl ⟨rfl, grown_alloc (grown_refl _ _) _⟩
/-- The log of the examples: of core 1, over a memory of ten blocks. -/
abbrev L2 (w0 : World) (mb : Nat) (mv : Value) (lb : Nat) := Lg w0 c2 9 mb mv lb
def B1 (bs : List (List Int)) : List (List Int) := putE bs 9 0 (68, 5)
section
variable {w0 w : World} {mb : Nat} {mv : Value} {lb : Nat} {P : Nat → Prop} {bs : List (List Int)}
theorem new2 (w0 w : World) (hT : Tab w0) (hg : w0.grownBy w none) (mb : Nat) (mv : Value) (hM : Mem w mb mv (List.replicate 10 zero)) (hv : ∀ k, mv.ownBlock = some k → w0.heap.size ≤ k) : Calls Tryd.prog 9 #[.agg c2.cells, .pointer (some ⟨mb, 0, none⟩), .int .i64 1] w fun e w' => ∃ lb P, e = .returned (.tuple #[.pointer (some ⟨lb, 0, none⟩), .int .i64 0]) ∧ L2 w0 mb mv lb w' P [] (List.replicate 10 zero) := by
  refine (new_ok c2 1 w mb mv _ 9 (hT.grown hg) hM c2_may (by decide) (by decide) rfl rfl).mono fun e w' ⟨lb, k1, k2, k3, k4⟩ => ⟨lb, _, k1, grown_trans hg k4, rfl, k2, hM.kept k4, Nat.le_trans hg.size k3, hv, by decide, by decide, by decide, by decide, Stands.nil _ _⟩
theorem add68 (h : L2 w0 mb mv lb w P [] bs) (hT : Tab w0) : Calls Tryd.prog 12 #[.pointer (some ⟨lb, 0, none⟩), .int .u32 68, .int .u32 5] w fun e w' => e = .returned (.int .i64 0) ∧ ∃ P, L2 w0 mb mv lb w' P [(68, 5)] (B1 bs) :=
  (h.add hT c2_may 68 5 (by decide) (by decide)).mono fun e w' ⟨k1, P', k2, _⟩ => ⟨k1, P', k2⟩
theorem add70 (h : L2 w0 mb mv lb w P [(68, 5)] bs) (hT : Tab w0) : Calls Tryd.prog 12 #[.pointer (some ⟨lb, 0, none⟩), .int .u32 70, .int .u32 5] w fun e w' => e = .returned (.int .i64 50) ∧ ∃ P, L2 w0 mb mv lb w' P [(68, 5)] bs :=
  (h.add hT c2_may 70 5 (by decide) (by decide)).mono fun e w' ⟨k1, P', k2, _⟩ => ⟨k1, P', k2⟩
theorem add512 (h : L2 w0 mb mv lb w P [(68, 5)] bs) (hT : Tab w0) : Calls Tryd.prog 12 #[.pointer (some ⟨lb, 0, none⟩), .int .u32 512, .int .u32 5] w fun e w' => e = .returned (.int .i64 51) ∧ ∃ P, L2 w0 mb mv lb w' P [(68, 5)] bs :=
  (h.add hT c2_may 512 5 (by decide) (by decide)).mono fun e w' ⟨k1, P', k2, _⟩ => ⟨k1, P', k2⟩
theorem room7 (h : L2 w0 mb mv lb w P [(68, 5)] bs) : Calls Tryd.prog 18 #[.pointer (some ⟨lb, 0, none⟩)] w fun e w' => e = .returned (.int .i64 7) ∧ L2 w0 mb mv lb w' P [(68, 5)] bs :=
  (room_any h.log (by decide) (by decide) (by decide)).mono fun e w' ⟨k1, q, k2⟩ => ⟨k1, by rw [k2]; exact h.grown (grown_drewN _ _)⟩
theorem last68 (h : L2 w0 mb mv lb w P [(68, 5)] bs) : Calls Tryd.prog 15 #[.pointer (some ⟨lb, 0, none⟩)] w fun e w' => e = .returned (.tuple #[.int .u32 68, .int .u32 5, .int .i64 0]) ∧ L2 w0 mb mv lb w' P [(68, 5)] bs :=
  (h.last c2_may).mono fun e w' ⟨k1, k2⟩ => ⟨k1, h.grown k2⟩
theorem last0 (h : L2 w0 mb mv lb w P [] bs) : Calls Tryd.prog 15 #[.pointer (some ⟨lb, 0, none⟩)] w fun e w' => e = .returned (.tuple #[.int .u32 0, .int .u32 0, .int .i64 4]) ∧ L2 w0 mb mv lb w' P [] bs :=
  (h.last c2_may).mono fun e w' ⟨k1, k2⟩ => ⟨k1, h.grown k2⟩
theorem pop68 (h : L2 w0 mb mv lb w P [(68, 5)] bs) : Calls Tryd.prog 14 #[.pointer (some ⟨lb, 0, none⟩)] w fun e w' => e = .returned (.int .i64 0) ∧ ∃ P, L2 w0 mb mv lb w' P [] bs :=
  (h.pop c2_may).mono fun e w' ⟨k1, P', k2, _⟩ => ⟨k1, P', k2⟩
theorem pop0 (h : L2 w0 mb mv lb w P [] bs) : Calls Tryd.prog 14 #[.pointer (some ⟨lb, 0, none⟩)] w fun e w' => e = .returned (.int .i64 4) ∧ ∃ P, L2 w0 mb mv lb w' P [] bs :=
  (h.pop c2_may).mono fun e w' ⟨k1, P', k2, _⟩ => ⟨k1, P', k2⟩
theorem word9 (h : L2 w0 mb mv lb w P [(68, 5)] bs) (hb : bs.length = 10) : Calls Tryd.prog 13 #[.pointer (some ⟨mb, 0, none⟩), .int .i64 9, .int .i64 0] w fun e w' => e = .returned (.tuple #[.int .u32 68, .int .i64 0]) ∧ L2 w0 mb mv lb w' P [(68, 5)] bs := by
  have := pp.word_any h.mem 9 0
  have hg := (h.stands.get (i := 0) (x := (68, 5)) rfl (by rw [hb]; decide)).1
  have hi : inn bs.length 9 0 = true := by rw [hb]; decide
  rw [show getW bs 9 0 = 68 from hg, hi] at this
  exact this.mono fun e w' ⟨k1, k2⟩ => ⟨k1, h.grown k2⟩
theorem word9' (h : L2 w0 mb mv lb w P [(68, 5)] bs) (hb : bs.length = 10) : Calls Tryd.prog 13 #[.pointer (some ⟨mb, 0, none⟩), .int .i64 9, .int .i64 1] w fun e w' => e = .returned (.tuple #[.int .u32 5, .int .i64 0]) ∧ L2 w0 mb mv lb w' P [(68, 5)] bs := by
  have := pp.word_any h.mem 9 1
  have hg := (h.stands.get (i := 0) (x := (68, 5)) rfl (by rw [hb]; decide)).2
  have hi : inn bs.length 9 1 = true := by rw [hb]; decide
  rw [show getW bs 9 1 = 5 from hg, hi] at this
  exact this.mono fun e w' ⟨k1, k2⟩ => ⟨k1, h.grown k2⟩
end
theorem mem10 (w : World) : Calls Tryd.prog 8 #[.int .i64 10] w fun e w' => ∃ b v, e = .returned (.tuple #[.pointer (some ⟨b, 0, none⟩), .int .i64 0]) ∧ Mem w' b v (List.replicate 10 zero) ∧ w.grownBy w' none ∧ ∀ k, v.ownBlock = some k → w.heap.size ≤ k :=
  (pp.new_ok 10 w (by decide) (by decide)).mono fun e w' ⟨b, v, k1, k2, k3, _, k5⟩ => ⟨b, v, k1, k2, k3, k5⟩
set_option maxHeartbeats 4000000 in
theorem works_any (w : World) (hT : Tab w) : Calls Tryd.prog 11 #[] w fun e w' => e = .returned (.bool true) ∧ w.grownBy w' none := by
  have HT := Lib.hid hT
  have HN := Lib.hid (mem10 w)
  clear hT
  go_enter Tryd.func11, Tryd.ntmps11
  go_wp2_with (first
    | (go_at_call 8; ((with_reducible refine HN.out.mono ?_); rintro e w1 ⟨mb, mv, rfl, hm1, hg1, hv1⟩; have HM1 := Lib.hid hm1; have HG1 := Lib.hid hg1; have HV1 := Lib.hid hv1; clear hm1 hg1 hv1))
    | (go_at_call 10; ((with_reducible refine (two_any w1).mono ?_); rintro e w2 ⟨rfl, hg2⟩; have HG2 := Lib.hid (grown_trans HG1.out hg2); have HM2 := Lib.hid (HM1.out.kept hg2); clear hg2))
    | (go_at_call 9; ((with_reducible refine (new2 w w2 HT.out HG2.out mb mv HM2.out HV1.out).mono ?_); rintro e w3 ⟨lb, P3, rfl, ho3⟩; have H3 := Lib.hid ho3; clear ho3))
    | (go_at_call 12; ((with_reducible refine (add68 H3.out HT.out).mono ?_); rintro e w4 ⟨rfl, P4, ho4⟩; have H4 := Lib.hid ho4; clear ho4 H3))
    | (go_at_call 12; ((with_reducible refine (add70 H4.out HT.out).mono ?_); rintro e w5 ⟨rfl, P5, ho5⟩; have H5 := Lib.hid ho5; clear ho5 H4))
    | (go_at_call 12; ((with_reducible refine (add512 H5.out HT.out).mono ?_); rintro e w6 ⟨rfl, P6, ho6⟩; have H6 := Lib.hid ho6; clear ho6 H5))
    | (go_at_call 18; ((with_reducible refine (room7 H6.out).mono ?_); rintro e w7 ⟨rfl, ho7⟩; have H7 := Lib.hid ho7; clear ho7 H6))
    | (go_at_call 15; ((with_reducible refine (last68 H7.out).mono ?_); rintro e w8 ⟨rfl, ho8⟩; have H8 := Lib.hid ho8; clear ho8 H7)))
  go_ret
  exact ⟨rfl, H8.out.old⟩
theorem worksOk : WorksOk := fun w hT => works_any w hT

/- No log. -/
theorem len_none (w : World) : Calls Tryd.prog 17 #[.pointer none] w fun e w' => e = .returned (.int .i64 0) ∧ w = w' := by
  go_enter Tryd.func17, Tryd.ntmps17
  go_wp2
  go_ret
  exact ⟨rfl, rfl⟩
theorem room_none (w : World) : Calls Tryd.prog 18 #[.pointer none] w fun e w' => e = .returned (.int .i64 0) ∧ w = w' := by
  go_enter Tryd.func18, Tryd.ntmps18
  go_wp2
  go_ret
  exact ⟨rfl, rfl⟩
theorem add_none (w : World) : Calls Tryd.prog 12 #[.pointer none, .int .u32 0, .int .u32 0] w fun e w' => e = .returned (.int .i64 1) ∧ w = w' := by
  go_enter Tryd.func12, Tryd.ntmps12
  go_wp2
  go_ret
  exact ⟨rfl, rfl⟩
theorem pop_nil (w : World) : Calls Tryd.prog 14 #[.pointer none] w fun e w' => e = .returned (.int .i64 1) ∧ w = w' := by
  go_enter Tryd.func14, Tryd.ntmps14
  go_wp2
  go_ret
  exact ⟨rfl, rfl⟩
theorem clear_nil (w : World) : Calls Tryd.prog 16 #[.pointer none] w fun e w' => e = .returned (.tuple #[]) ∧ w = w' := by
  go_enter Tryd.func16, Tryd.ntmps16
  go_wp2
  refine bodyPost_end (results_none rfl _ _ _) rfl ?_
  exact ⟨rfl, rfl⟩
theorem at_nil (i : Int) (w : World) : Calls Tryd.prog 23 #[.pointer none, .int .i64 i] w fun e w' => e = .returned (.tuple #[.int .u32 0, .int .u32 0, .int .i64 1]) ∧ w = w' := by
  go_enter Tryd.func23, Tryd.ntmps23
  go_wp2
  go_ret3
  exact ⟨rfl, rfl⟩
theorem last_nil (w : World) : Calls Tryd.prog 15 #[.pointer none] w fun e w' => e = .returned (.tuple #[.int .u32 0, .int .u32 0, .int .i64 1]) ∧ w = w' := by
  go_enter Tryd.func15, Tryd.ntmps15
  go_wp2_with (first
    | (go_at_call 17; ((with_reducible refine (len_none _).mono ?_); rintro e w1 ⟨rfl, rfl⟩))
    | (go_at_call 23; ((with_reducible refine (at_nil _ _).mono ?_); rintro e w2 ⟨rfl, rfl⟩)))
  go_ret3
  exact ⟨rfl, rfl⟩
set_option maxHeartbeats 4000000 in
theorem known_true (w : World) (hT : Tab w) : Calls Tryd.prog 3 #[] w fun e w' => e = .returned (.bool true) ∧ w.grownBy w' none := by
  have HT := Lib.hid hT
  have HN := Lib.hid (mem10 w)
  have HB : Hid ((B1 (List.replicate 10 zero)).length = 10) := Lib.hid (by unfold B1 putE; rw [put1_len, put1_len]; rfl)
  clear hT
  go_enter Tryd.func3, Tryd.ntmps3
  go_wp2_with (first
    | (go_at_call 8; ((with_reducible refine HN.out.mono ?_); rintro e w1 ⟨mb, mv, rfl, hm1, hg1, hv1⟩; have HM1 := Lib.hid hm1; have HG1 := Lib.hid hg1; have HV1 := Lib.hid hv1; clear hm1 hg1 hv1))
    | (go_at_call 10; ((with_reducible refine (two_any w1).mono ?_); rintro e w2 ⟨rfl, hg2⟩; have HG2 := Lib.hid (grown_trans HG1.out hg2); have HM2 := Lib.hid (HM1.out.kept hg2); clear hg2))
    | (go_at_call 9; ((with_reducible refine (new2 w w2 HT.out HG2.out mb mv HM2.out HV1.out).mono ?_); rintro e w3 ⟨lb, P3, rfl, ho3⟩; have H3 := Lib.hid ho3; clear ho3))
    | (go_at_call 11; ((with_reducible refine (works_any w3 (HT.out.grown H3.out.old)).mono ?_); rintro e wa ⟨rfl, hga⟩; have Ha := Lib.hid (H3.out.grown hga); clear hga H3))
    | (go_at_call 12; ((with_reducible refine (add68 Ha.out HT.out).mono ?_); rintro e w4 ⟨rfl, P4, ho4⟩; have H4 := Lib.hid ho4; clear ho4 Ha))
    | (go_at_call 13; ((with_reducible refine (word9 H4.out HB.out).mono ?_); rintro e w5 ⟨rfl, ho5⟩; have H5 := Lib.hid ho5; clear ho5))
    | (go_at_call 13; ((with_reducible refine (word9' H5.out HB.out).mono ?_); rintro e w6 ⟨rfl, ho6⟩; have H6 := Lib.hid ho6; clear ho6))
    | (go_at_call 14; ((with_reducible refine (pop68 H6.out).mono ?_); rintro e w7 ⟨rfl, P7, ho7⟩; have H7 := Lib.hid ho7; clear ho7))
    | (go_at_call 14; ((with_reducible refine (pop0 H7.out).mono ?_); rintro e w8 ⟨rfl, P8, ho8⟩; have H8 := Lib.hid ho8; clear ho8))
    | (go_at_call 15; ((with_reducible refine (last0 H8.out).mono ?_); rintro e w9 ⟨rfl, ho9⟩; have H9 := Lib.hid ho9.old; clear ho9))
    | (go_at_call 16; ((with_reducible refine (clear_nil _).mono ?_); rintro e wb ⟨rfl, rfl⟩))
    | (go_at_call 15; ((with_reducible refine (last_nil _).mono ?_); rintro e wb ⟨rfl, rfl⟩))
    | (go_at_call 10; ((with_reducible refine (two_any w9).mono ?_); rintro e wc ⟨rfl, hgc⟩; have Hc := Lib.hid (grown_trans H9.out hgc); clear hgc))
    | (go_at_call 9; ((with_reducible refine (new_nil c2 0 _).mono ?_); rintro e wd ⟨rfl, hgd⟩; have Hd := Lib.hid (grown_trans Hc.out hgd); clear hgd))
    | (go_at_call 12; ((with_reducible refine (add_none _).mono ?_); rintro e wb ⟨rfl, rfl⟩))
    | (go_at_call 14; ((with_reducible refine (pop_nil _).mono ?_); rintro e wb ⟨rfl, rfl⟩))
    | (go_at_call 17; ((with_reducible refine (len_none _).mono ?_); rintro e wb ⟨rfl, rfl⟩))
    | (go_at_call 18; ((with_reducible refine (room_none _).mono ?_); rintro e wb ⟨rfl, rfl⟩)))
  go_ret
  exact ⟨rfl, Hd.out⟩
end Go.Proofs.YtfjjmlmkpdpdfaaDoor.ud
