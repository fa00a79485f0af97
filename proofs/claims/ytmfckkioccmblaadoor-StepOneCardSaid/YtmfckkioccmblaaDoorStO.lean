/-
  The laws StepRegs, StepGoes answer true. The tables are as the program's text lays them (Tab).
-/
import Derived.Test.YtmfckkioccmblaaDoorStN
namespace Go.Proofs.YtmfckkioccmblaaDoor.sg
open Go Go.ChangeShapes Go.WideShapes Go.ChangeAt Go.RowKit Go.Proofs.YtmfckkioccmblaaDoor.cd
set_option linter.unusedVariables false
set_option maxRecDepth 1000000

/-- Two blocks of registers, in whatever came to be since. -/
theorem keep2 {w : World} {g k : Nat} {x y : List Int} {t u : TypeId} {fr fs : Nat × Nat} (hA : w.heap[g]? = some (.cells (row x) t fr)) (hB : w.heap[k]? = some (.cells (row y) u fs)) (w' : World) (hg : w.grownBy w' none) : w'.rangeAt g 0 (rl x) ∧ w'.rangeAt k 0 (rl y) :=
  ⟨range_of (row_grown hA hg), range_of (row_grown hB hg)⟩
set_option maxHeartbeats 2000000 in
theorem regs_true (x : List Int) (hx : x.length = 16) (n v m : Int) (w : World) (hT : Tab w) : Calls Tryd.prog 5 #[.agg (row x), .int .i64 n, .int .u32 v, .int .i64 m] w fun e w' => e = .returned (.bool true) ∧ w.grownBy w' none := by
  have hr : (pt x n v).length = 16 := pt_len hx _ _
  have HE : ∀ w, (binOp .eql 23 (.agg (row (pt x n v))) (.agg (row (pt x n v)))).run Tryd.prog w = .ok (.bool true) w := fun w => by rw [eqRe w _ _ hr hr]; simp
  have HP : Hid (∀ w', _) := Lib.hid fun w' => put_any x hx n v w'
  have HRP : Hid (∀ w', _) := Lib.hid fun w' => rput_any x hx n v w'
  have HG : Hid (∀ w', _) := Lib.hid fun w' => get_any (pt x n v) hr m w'
  have HRG : Hid (∀ w', _) := Lib.hid fun w' => rget_any (pt x n v) hr m w'
  have HW : Hid (∀ w', w.grownBy w' none → _) := Lib.hid fun w' h => works_any w' (hT.grown h)
  have HL := Lib.hid hr
  have HX := Lib.hid hx
  generalize pt x n v = R at HE HP HRP HG HRG HL
  generalize gt R m = G at HG HRG
  obtain ⟨w1, hw1, hg1, hA1⟩ := box_one w x
  have HW1 := Lib.hid hw1
  have HG1 := Lib.hid hg1
  have HA1 := Lib.hid hA1
  obtain ⟨t, nn, HT, hagg, hsize, hsz, hld, hst⟩ := namedR
  have hl1 := hld w.heap.size x hx
  have HLD : Hid (∀ b, _) := Lib.hid fun b => hld b R HL.out
  clear hT hw1 hg1 hA1 hx hr hld hst hsz
  go_enter Tryd.func5, Tryd.ntmps5
  go_upto_region 1 with fail
  rw [HW1.out]
  go_upto_region 2 with (first
    | ((with_reducible refine load_any x 4 w.heap.size ?_ ?_ HX.out ?_); ((rfl)); ((exact HA1.out)))
    | (go_at_call 13; ((with_reducible refine (HP.out _).mono ?_); rintro e w3 ⟨rfl, hg3⟩; have HZ3 := Lib.hid (grown_alloc hg3 (.cells (row R) 23)); have HB3 := Lib.hid (heap_alloc_new w3 (.cells (row R) 23)); clear hg3))
    | ((with_reducible refine store_new' R 9 13 ?_ ?_ HL.out ?_); ((rfl)); ((rfl))))
  obtain ⟨b1, hb1⟩ : ∃ b1, b1 = w3.heap.size := ⟨_, rfl⟩
  rw [← hb1] at HB3
  generalize w3.alloc (.cells (row R) 23) = w4 at HZ3 HB3 ⊢
  try rw [← hb1]
  clear hb1
  have HK := Lib.hid (keep2 (row_grown HA1.out HZ3.out) HB3.out)
  have hl2 := HLD.out b1
  rw [HT.out.1]
  go_region_held3 (fun w' => w'.rangeAt w.heap.size 0 (rl x) ∧ w'.rangeAt b1 0 (rl R))
    (first | (with_reducible exact HK.out _ (grown_refl _ _)) | (with_reducible exact HK.out _ (grown_drew (grown_refl _ _))) | (with_reducible exact HK.out _ HG5.out) | (with_reducible exact HK.out _ HG6.out) | (with_reducible exact HK.out _ HG7.out) | (with_reducible exact HK.out _ HG8.out))
    (first
      | (go_at_call 14; ((with_reducible refine (HRP.out _).mono ?_); rintro e w5 ⟨rfl, hg5⟩; have HG5 := Lib.hid (grown_trans (grown_drew (grown_refl w4 none)) hg5); clear hg5))
      | (go_at_call 15; ((with_reducible refine (HG.out _).mono ?_); rintro e w6 ⟨rfl, hg6⟩; have HG6 := Lib.hid (grown_trans HG5.out hg6); clear hg6))
      | (go_at_call 16; ((with_reducible refine (HRG.out _).mono ?_); rintro e w7 ⟨rfl, hg7⟩; have HG7 := Lib.hid (grown_trans HG6.out hg7); clear hg7))
      | (go_at_call 10; ((with_reducible refine (HW.out _ (grown_trans HG1.out (grown_trans HZ3.out HG7.out))).mono ?_); rintro e w8 ⟨rfl, hg8⟩; have HG8 := Lib.hid (grown_trans HG7.out hg8); clear hg8)))
  go_wp2_with fail
  go_ret
  exact ⟨rfl, grown_trans HG1.out (grown_trans HZ3.out HG8.out)⟩
end Go.Proofs.YtmfckkioccmblaaDoor.sg
