/-
  What the document's Put answers: contract. No condition but the bounds that the theorem names.
-/
import Derived.Test.YthmnjoanehepcaaDoorB6
import Derived.Test.YthmnjoanehepcaaDoorA6
namespace Go.Proofs.YthmnjoanehepcaaDoor.nn
open Go Go.ChangeShapes Go.WideShapes Go.ChangeAt Go.RowKit
set_option linter.unusedVariables false

theorem rput_no (n : Nt) (w : World) (h : ¬ n.ok) : Calls Tryd.prog 13 #[.agg (na n)] w fun e w' => e = .returned (.tuple #[S [], .int .i64 2]) ∧ w.grownBy w' none := by
  have hg := grown_alloc (grown_refl w none) (.cells (na n) 31)
  have HM := Lib.hid (rmay_any n (w.alloc (.cells (na n) 31)))
  rw [decide_eq_false h] at HM
  have HG := Lib.hid hg
  have HR := Lib.hid (range_of (heap_alloc_new w (.cells (na n) 31)))
  clear h hg
  go_enter Tryd.func13, Tryd.ntmps13
  go_wp2_with (first
    | ((with_reducible refine load_nt n 1 w.heap.size ?_ HR.out ?_); (rfl))
    | (go_at_call 15; ((with_reducible refine HM.out.mono ?_); rintro e w1 ⟨rfl, hg1⟩; have HG1 := Lib.hid hg1; clear hg1)))
  go_ret2
  exact ⟨rfl, grown_trans HG.out HG1.out⟩
theorem rnumber_lit (x : Int) (h0 : 0 ≤ x) (h1 : x < 18446744073709551616) (m : Nat) (hm : m ≤ 8) (mi : Int) (hmi : mi = (m : Int)) (w : World) : Calls Tryd.prog 22 #[.int .u64 x, .int .i64 mi] w fun e w' => e = .returned (S (lowb x.toNat m)) ∧ w.grownBy w' none := by
  have h := rnumber_any x.toNat m hm (by omega) w
  rw [show ((x.toNat : Nat) : Int) = x by omega, ← hmi] at h
  exact h
theorem lowb_one (x : Nat) : lowb x 1 = [byt x 0] := rfl
theorem start {wb w' : World} {a b c d e : World → Prop} (H : Hid (∀ w', wb.grownBy w' none → a w' ∧ b w' ∧ c w' ∧ d w' ∧ e w')) (h : wb.grownBy w' none) : a w' ∧ b w' ∧ c w' ∧ d w' ∧ e w' ∧ wb.grownBy w' none :=
  ⟨(H.out _ h).1, (H.out _ h).2.1, (H.out _ h).2.2.1, (H.out _ h).2.2.2.1, (H.out _ h).2.2.2.2, h⟩
theorem more {wb wx w' : World} {a b c d e : World → Prop} (H : Hid (∀ w', wb.grownBy w' none → a w' ∧ b w' ∧ c w' ∧ d w' ∧ e w')) (h : a wx ∧ b wx ∧ c wx ∧ d wx ∧ e wx ∧ wb.grownBy wx none) (k : wx.grownBy w' none) : a w' ∧ b w' ∧ c w' ∧ d w' ∧ e w' ∧ wb.grownBy w' none :=
  start H (grown_trans h.2.2.2.2.2 k)
/-- What the document's Put reads in its one long statement. -/
def Reads (w' : World) (B : Nat) (n : Nt) : Prop := w'.cell? ⟨B, 0, none⟩ = some (.int .u8 n.k) ∧ w'.cell? ⟨B, 1, none⟩ = some (.int .i64 n.f) ∧ w'.cell? ⟨B, 2, none⟩ = some (.int .i64 n.t) ∧ w'.cell? ⟨B, 3, none⟩ = some (.int .i64 n.b) ∧ w'.cell? ⟨B, 4, none⟩ = some (.int .u64 n.st)

set_option maxRecDepth 100000 in
set_option maxHeartbeats 2000000 in
theorem rput_yes (n : Nt) (w : World) (h : n.ok) (hF : n.Fit) : Calls Tryd.prog 13 #[.agg (na n)] w fun e w' => e = .returned (.tuple #[S (putb n), .int .i64 0]) ∧ w.grownBy w' none := by
  obtain ⟨wb, hwb⟩ : ∃ wb, wb = w.alloc (.cells (na n) 31) := ⟨_, rfl⟩
  have hg : w.grownBy wb none := hwb ▸ grown_alloc (grown_refl w none) (.cells (na n) 31)
  have HM := Lib.hid (rmay_any n wb)
  rw [decide_eq_true h] at HM
  have HG := Lib.hid hg
  have HR : Hid (wb.rangeAt w.heap.size 0 (nt n)) := Lib.hid (hwb ▸ range_of (heap_alloc_new w (.cells (na n) 31)))
  obtain ⟨⟨k1, k2⟩, ⟨f1, f2⟩, ⟨t1, t2⟩, ⟨b1, b2⟩, ⟨s1, s2⟩⟩ := h.bd
  have HCL : Hid (∀ w', wb.grownBy w' none → w'.rangeAt w.heap.size 0 (nt n)) := Lib.hid fun w' hg' => range_grown HR.out hg' (by simp)
  have HF := Lib.hid hF
  have HWB := Lib.hid hwb.symm
  have HLH := Lib.hid (headb_len n)
  have HN16 := Lib.hid n.hd
  have HN1 := Lib.hid (rnumber_lit n.k (by omega) (by omega) 1 (by omega) 1 rfl)
  have HN2 := Lib.hid (rnumber_lit (n.f + 1) (by omega) (by omega) 1 (by omega) 1 rfl)
  have HN3 := Lib.hid (rnumber_lit (n.t + 1) (by omega) (by omega) 1 (by omega) 1 rfl)
  have HN4 := Lib.hid (rnumber_lit n.b (by omega) (by omega) 2 (by omega) 2 rfl)
  have HN5 := Lib.hid (rnumber_lit n.st hF.st.1 hF.st.2 8 (by omega) 8 rfl)
  obtain ⟨g, hgf⟩ : ∃ g, g = flg n := ⟨_, rfl⟩
  have HN6 := Lib.hid (rnumber_lit g (by have := flg_bd n ⟨s1, s2⟩; omega) (by have := flg_bd n ⟨s1, s2⟩; omega) 1 (by omega) 1 rfl)
  obtain ⟨x2, hx2⟩ : ∃ x, x = lowb n.k.toNat 1 ++ lowb (n.f + 1).toNat 1 := ⟨_, rfl⟩
  obtain ⟨x3, hx3⟩ : ∃ x, x = x2 ++ lowb (n.t + 1).toNat 1 := ⟨_, rfl⟩
  obtain ⟨x4, hx4⟩ : ∃ x, x = x3 ++ lowb n.b.toNat 2 := ⟨_, rfl⟩
  obtain ⟨x5, hx5⟩ : ∃ x, x = x4 ++ lowb n.st.toNat 8 := ⟨_, rfl⟩
  obtain ⟨x6, hx6⟩ : ∃ x, x = x5 ++ lowb g.toNat 1 := ⟨_, rfl⟩
  have HX6 : Hid (x6 = headb n) := Lib.hid (by
    rw [hx6, hx5, hx4, hx3, hx2, hgf]; simp [headb, head3, lowb_one])
  have l2 : x2.length = 2 := by rw [hx2]; simp [lowb_len]
  have l3 : x3.length = 3 := by rw [hx3]; simp [lowb_len, l2]
  have l4 : x4.length = 5 := by rw [hx4]; simp [lowb_len, l3]
  have l5 : x5.length = 13 := by rw [hx5]; simp [lowb_len, l4]
  have ha2 := fun w => add_s (lowb n.k.toNat 1) (lowb (n.f + 1).toNat 1) (by simp [lowb_len]) w
  have ha3 := fun w => add_s x2 (lowb (n.t + 1).toNat 1) (by simp [lowb_len, l2]) w
  have ha4 := fun w => add_s x3 (lowb n.b.toNat 2) (by simp [lowb_len, l3]) w
  have ha5 := fun w => add_s x4 (lowb n.st.toNat 8) (by simp [lowb_len, l4]) w
  have ha6 := fun w => add_s x5 (lowb g.toNat 1) (by simp [lowb_len, l5]) w
  rw [← hx2] at ha2
  rw [← hx3] at ha3
  rw [← hx4] at ha4
  rw [← hx5] at ha5
  rw [← hx6] at ha6
  have HGF := Lib.hid hgf
  clear hx2 hx3 hx4 hx5 hx6 l2 l3 l4 l5 hgf
  generalize lowb n.k.toNat 1 = y1 at *
  generalize lowb (n.f + 1).toNat 1 = y2 at *
  generalize lowb (n.t + 1).toNat 1 = y3 at *
  generalize lowb n.b.toNat 2 = y4 at *
  generalize lowb n.st.toNat 8 = y5 at *
  generalize lowb g.toNat 1 = y6 at *
  clear hwb h hg hF
  cases hh : n.h <;> cases hq : n.q
  · have hgv : 4 * n.s = g := by have := HGF.out; unfold flg at this; rw [hh, hq] at this; simp at this; omega
    go_enter Tryd.func13, Tryd.ntmps13
    go_wp2_with (first
      | ((with_reducible refine load_nt n 1 w.heap.size ?_ (by rw [HWB.out]; exact HR.out) ?_); (rfl))
      | (go_at_call 15; (rw [HWB.out]; (with_reducible refine HM.out.mono ?_); rintro e w1 ⟨rfl, hg1⟩; have HG1 := Lib.hid hg1; clear hg1; have hr1 := HCL.out _ HG1.out; have c0 := cell_at hr1 0 _ rfl; have c1 := cell_at hr1 1 _ rfl; have c2 := cell_at hr1 2 _ rfl; have c3 := cell_at hr1 3 _ rfl; have c4 := cell_at hr1 4 _ rfl; have c5 := cell_at hr1 5 _ rfl; have c6 := cell_at hr1 6 _ rfl; have c7 := cell_at hr1 7 _ rfl; rw [hh] at c6; rw [hq] at c7; clear hr1)))
    clear c5 c6 c7
    have HC : Hid (∀ w', wb.grownBy w' none → w'.cell? ⟨w.heap.size, 0, none⟩ = some (.int .u8 n.k) ∧ w'.cell? ⟨w.heap.size, 1, none⟩ = some (.int .i64 n.f) ∧ w'.cell? ⟨w.heap.size, 2, none⟩ = some (.int .i64 n.t) ∧ w'.cell? ⟨w.heap.size, 3, none⟩ = some (.int .i64 n.b) ∧ w'.cell? ⟨w.heap.size, 4, none⟩ = some (.int .u64 n.st)) := Lib.hid fun w' h => by
      have hr := HCL.out _ h
      exact ⟨cell_at hr 0 _ rfl, cell_at hr 1 _ rfl, cell_at hr 2 _ rfl, cell_at hr 3 _ rfl, cell_at hr 4 _ rfl⟩
    clear c0 c1 c2 c3 c4
    have e1 : IntKind.u64.wrap n.k = n.k := wu64 _ (by omega) (by omega)
    have e2 : IntKind.i64.wrap (n.f + 1) = n.f + 1 := IntWalk.i64_in _ (by omega)
    have e3 : IntKind.u64.wrap (n.f + 1) = n.f + 1 := wu64 _ (by omega) (by omega)
    have e4 : IntKind.i64.wrap (n.t + 1) = n.t + 1 := IntWalk.i64_in _ (by omega)
    have e5 : IntKind.u64.wrap (n.t + 1) = n.t + 1 := wu64 _ (by omega) (by omega)
    have e6 : IntKind.u64.wrap n.b = n.b := wu64 _ (by omega) (by omega)
    first
    | (go_region_held3 (fun w' => w'.cell? ⟨w.heap.size, 0, none⟩ = some (.int .u8 n.k) ∧ w'.cell? ⟨w.heap.size, 1, none⟩ = some (.int .i64 n.f) ∧ w'.cell? ⟨w.heap.size, 2, none⟩ = some (.int .i64 n.t) ∧ w'.cell? ⟨w.heap.size, 3, none⟩ = some (.int .i64 n.b) ∧ w'.cell? ⟨w.heap.size, 4, none⟩ = some (.int .u64 n.st) ∧ wb.grownBy w' none) (first | exact start HC HG1.out | exact start HC (grown_drew HG1.out) | assumption | exact more HC (by assumption) (by assumption)) (first
        | (go_at_call 22; ((with_reducible refine (HN1.out _).mono ?_); rintro e w9 ⟨rfl, hg9⟩))
        | (go_at_call 22; ((with_reducible refine (HN2.out _).mono ?_); rintro e w9 ⟨rfl, hg9⟩))
        | (go_at_call 22; ((with_reducible refine (HN3.out _).mono ?_); rintro e w9 ⟨rfl, hg9⟩))
        | (go_at_call 22; ((with_reducible refine (HN4.out _).mono ?_); rintro e w9 ⟨rfl, hg9⟩))
        | (go_at_call 22; ((with_reducible refine (HN5.out _).mono ?_); rintro e w9 ⟨rfl, hg9⟩))
        | (go_at_call 22; ((with_reducible refine (HN6.out _).mono ?_); rintro e w9 ⟨rfl, hg9⟩))))
    | fail
    clear e1 e2 e3 e4 e5 e6 ha2 ha3 ha4 ha5 ha6
    have HX := Lib.hid (show wb.grownBy _ none from And.right (And.right (And.right (And.right (And.right (by assumption))))))
    go_wp2_with fail
    go_loopw [5, 6] (fun a c wr => ∃ k : Nat, k ≤ 16 ∧ c = .int .i64 (k : Int) ∧ a = S (headb n ++ datb n.d k) ∧ wb.grownBy wr none) (fun _ c _ => 16 - (intOf c).toNat)
    case atStart => exact ⟨0, by omega, rfl, by rw [← HX6.out]; simp [datb], HX.out⟩
    case round =>
      obtain ⟨k, hk, rfl, rfl, hb⟩ := hrel
      have HBK := Lib.hid hb
      clear hb
      by_cases hlt : k < 16
      · obtain ⟨x, hx⟩ : ∃ x, n.d[k]? = some x := ⟨_, List.getElem?_eq_getElem (by rw [HN16.out]; exact hlt)⟩
        have hxb := HF.out.d x (List.mem_of_getElem? hx)
        have cx := cell_at (HCL.out _ HBK.out) (8 + k) (Value.int .u32 x) (by rw [nt_d, hx]; rfl)
        have HP4 := Lib.hid (rnumber_lit x hxb.1 (by omega) 4 (by omega) 4 rfl)
        have HS := Lib.hid (datb_succ n.d k x hx)
        obtain ⟨z0, hz0⟩ : ∃ z, z = headb n ++ datb n.d k := ⟨_, rfl⟩
        obtain ⟨z1, hz1⟩ : ∃ z, z = z0 ++ lowb x.toNat 4 := ⟨_, rfl⟩
        have hadd := fun w => add_s z0 (lowb x.toNat 4) (by rw [hz0, List.length_append, HLH.out, datb_len n.d k (by rw [HN16.out]; omega), lowb_len]; omega) w
        rw [← hz1] at hadd
        have HZ : Hid (z1 = headb n ++ datb n.d (k + 1)) := Lib.hid (by rw [hz1, hz0, HS.out, List.append_assoc])
        rw [← hz0]
        clear hz0 hz1 HS hx
        generalize lowb x.toNat 4 = y at *
        obtain ⟨q0, q1⟩ := hxb
        go_wp2_with (go_at_call 22; ((with_reducible refine (HP4.out _).mono ?_); rintro e w7 ⟨rfl, hb7⟩; have HB8 := Lib.hid hb7; clear hb7))
        go_roundw
        case rel => exact ⟨k + 1, by omega, by go_num, by rw [HZ.out], grown_trans HBK.out HB8.out⟩
        case measure => simp [intOf]; omega
      · obtain rfl : k = 16 := by omega
        go_wp2_with fail
        go_ret2
        exact ⟨rfl, grown_trans HG.out HBK.out⟩
  · have hgv : 4 * n.s + 1 = g := by have := HGF.out; unfold flg at this; rw [hh, hq] at this; simp at this; omega
    go_enter Tryd.func13, Tryd.ntmps13
    go_wp2_with (first
      | ((with_reducible refine load_nt n 1 w.heap.size ?_ (by rw [HWB.out]; exact HR.out) ?_); (rfl))
      | (go_at_call 15; (rw [HWB.out]; (with_reducible refine HM.out.mono ?_); rintro e w1 ⟨rfl, hg1⟩; have HG1 := Lib.hid hg1; clear hg1; have hr1 := HCL.out _ HG1.out; have c0 := cell_at hr1 0 _ rfl; have c1 := cell_at hr1 1 _ rfl; have c2 := cell_at hr1 2 _ rfl; have c3 := cell_at hr1 3 _ rfl; have c4 := cell_at hr1 4 _ rfl; have c5 := cell_at hr1 5 _ rfl; have c6 := cell_at hr1 6 _ rfl; have c7 := cell_at hr1 7 _ rfl; rw [hh] at c6; rw [hq] at c7; clear hr1)))
    clear c5 c6 c7
    have HC : Hid (∀ w', wb.grownBy w' none → w'.cell? ⟨w.heap.size, 0, none⟩ = some (.int .u8 n.k) ∧ w'.cell? ⟨w.heap.size, 1, none⟩ = some (.int .i64 n.f) ∧ w'.cell? ⟨w.heap.size, 2, none⟩ = some (.int .i64 n.t) ∧ w'.cell? ⟨w.heap.size, 3, none⟩ = some (.int .i64 n.b) ∧ w'.cell? ⟨w.heap.size, 4, none⟩ = some (.int .u64 n.st)) := Lib.hid fun w' h => by
      have hr := HCL.out _ h
      exact ⟨cell_at hr 0 _ rfl, cell_at hr 1 _ rfl, cell_at hr 2 _ rfl, cell_at hr 3 _ rfl, cell_at hr 4 _ rfl⟩
    clear c0 c1 c2 c3 c4
    have e1 : IntKind.u64.wrap n.k = n.k := wu64 _ (by omega) (by omega)
    have e2 : IntKind.i64.wrap (n.f + 1) = n.f + 1 := IntWalk.i64_in _ (by omega)
    have e3 : IntKind.u64.wrap (n.f + 1) = n.f + 1 := wu64 _ (by omega) (by omega)
    have e4 : IntKind.i64.wrap (n.t + 1) = n.t + 1 := IntWalk.i64_in _ (by omega)
    have e5 : IntKind.u64.wrap (n.t + 1) = n.t + 1 := wu64 _ (by omega) (by omega)
    have e6 : IntKind.u64.wrap n.b = n.b := wu64 _ (by omega) (by omega)
    first
    | (go_region_held3 (fun w' => w'.cell? ⟨w.heap.size, 0, none⟩ = some (.int .u8 n.k) ∧ w'.cell? ⟨w.heap.size, 1, none⟩ = some (.int .i64 n.f) ∧ w'.cell? ⟨w.heap.size, 2, none⟩ = some (.int .i64 n.t) ∧ w'.cell? ⟨w.heap.size, 3, none⟩ = some (.int .i64 n.b) ∧ w'.cell? ⟨w.heap.size, 4, none⟩ = some (.int .u64 n.st) ∧ wb.grownBy w' none) (first | exact start HC HG1.out | exact start HC (grown_drew HG1.out) | assumption | exact more HC (by assumption) (by assumption)) (first
        | (go_at_call 22; ((with_reducible refine (HN1.out _).mono ?_); rintro e w9 ⟨rfl, hg9⟩))
        | (go_at_call 22; ((with_reducible refine (HN2.out _).mono ?_); rintro e w9 ⟨rfl, hg9⟩))
        | (go_at_call 22; ((with_reducible refine (HN3.out _).mono ?_); rintro e w9 ⟨rfl, hg9⟩))
        | (go_at_call 22; ((with_reducible refine (HN4.out _).mono ?_); rintro e w9 ⟨rfl, hg9⟩))
        | (go_at_call 22; ((with_reducible refine (HN5.out _).mono ?_); rintro e w9 ⟨rfl, hg9⟩))
        | (go_at_call 22; ((with_reducible refine (HN6.out _).mono ?_); rintro e w9 ⟨rfl, hg9⟩))))
    | fail
    clear e1 e2 e3 e4 e5 e6 ha2 ha3 ha4 ha5 ha6
    have HX := Lib.hid (show wb.grownBy _ none from And.right (And.right (And.right (And.right (And.right (by assumption))))))
    go_wp2_with fail
    go_loopw [5, 6] (fun a c wr => ∃ k : Nat, k ≤ 16 ∧ c = .int .i64 (k : Int) ∧ a = S (headb n ++ datb n.d k) ∧ wb.grownBy wr none) (fun _ c _ => 16 - (intOf c).toNat)
    case atStart => exact ⟨0, by omega, rfl, by rw [← HX6.out]; simp [datb], HX.out⟩
    case round =>
      obtain ⟨k, hk, rfl, rfl, hb⟩ := hrel
      have HBK := Lib.hid hb
      clear hb
      by_cases hlt : k < 16
      · obtain ⟨x, hx⟩ : ∃ x, n.d[k]? = some x := ⟨_, List.getElem?_eq_getElem (by rw [HN16.out]; exact hlt)⟩
        have hxb := HF.out.d x (List.mem_of_getElem? hx)
        have cx := cell_at (HCL.out _ HBK.out) (8 + k) (Value.int .u32 x) (by rw [nt_d, hx]; rfl)
        have HP4 := Lib.hid (rnumber_lit x hxb.1 (by omega) 4 (by omega) 4 rfl)
        have HS := Lib.hid (datb_succ n.d k x hx)
        obtain ⟨z0, hz0⟩ : ∃ z, z = headb n ++ datb n.d k := ⟨_, rfl⟩
        obtain ⟨z1, hz1⟩ : ∃ z, z = z0 ++ lowb x.toNat 4 := ⟨_, rfl⟩
        have hadd := fun w => add_s z0 (lowb x.toNat 4) (by rw [hz0, List.length_append, HLH.out, datb_len n.d k (by rw [HN16.out]; omega), lowb_len]; omega) w
        rw [← hz1] at hadd
        have HZ : Hid (z1 = headb n ++ datb n.d (k + 1)) := Lib.hid (by rw [hz1, hz0, HS.out, List.append_assoc])
        rw [← hz0]
        clear hz0 hz1 HS hx
        generalize lowb x.toNat 4 = y at *
        obtain ⟨q0, q1⟩ := hxb
        go_wp2_with (go_at_call 22; ((with_reducible refine (HP4.out _).mono ?_); rintro e w7 ⟨rfl, hb7⟩; have HB8 := Lib.hid hb7; clear hb7))
        go_roundw
        case rel => exact ⟨k + 1, by omega, by go_num, by rw [HZ.out], grown_trans HBK.out HB8.out⟩
        case measure => simp [intOf]; omega
      · obtain rfl : k = 16 := by omega
        go_wp2_with fail
        go_ret2
        exact ⟨rfl, grown_trans HG.out HBK.out⟩
  · have hgv : 4 * n.s + 2 = g := by have := HGF.out; unfold flg at this; rw [hh, hq] at this; simp at this; omega
    go_enter Tryd.func13, Tryd.ntmps13
    go_wp2_with (first
      | ((with_reducible refine load_nt n 1 w.heap.size ?_ (by rw [HWB.out]; exact HR.out) ?_); (rfl))
      | (go_at_call 15; (rw [HWB.out]; (with_reducible refine HM.out.mono ?_); rintro e w1 ⟨rfl, hg1⟩; have HG1 := Lib.hid hg1; clear hg1; have hr1 := HCL.out _ HG1.out; have c0 := cell_at hr1 0 _ rfl; have c1 := cell_at hr1 1 _ rfl; have c2 := cell_at hr1 2 _ rfl; have c3 := cell_at hr1 3 _ rfl; have c4 := cell_at hr1 4 _ rfl; have c5 := cell_at hr1 5 _ rfl; have c6 := cell_at hr1 6 _ rfl; have c7 := cell_at hr1 7 _ rfl; rw [hh] at c6; rw [hq] at c7; clear hr1)))
    clear c5 c6 c7
    have HC : Hid (∀ w', wb.grownBy w' none → w'.cell? ⟨w.heap.size, 0, none⟩ = some (.int .u8 n.k) ∧ w'.cell? ⟨w.heap.size, 1, none⟩ = some (.int .i64 n.f) ∧ w'.cell? ⟨w.heap.size, 2, none⟩ = some (.int .i64 n.t) ∧ w'.cell? ⟨w.heap.size, 3, none⟩ = some (.int .i64 n.b) ∧ w'.cell? ⟨w.heap.size, 4, none⟩ = some (.int .u64 n.st)) := Lib.hid fun w' h => by
      have hr := HCL.out _ h
      exact ⟨cell_at hr 0 _ rfl, cell_at hr 1 _ rfl, cell_at hr 2 _ rfl, cell_at hr 3 _ rfl, cell_at hr 4 _ rfl⟩
    clear c0 c1 c2 c3 c4
    have e1 : IntKind.u64.wrap n.k = n.k := wu64 _ (by omega) (by omega)
    have e2 : IntKind.i64.wrap (n.f + 1) = n.f + 1 := IntWalk.i64_in _ (by omega)
    have e3 : IntKind.u64.wrap (n.f + 1) = n.f + 1 := wu64 _ (by omega) (by omega)
    have e4 : IntKind.i64.wrap (n.t + 1) = n.t + 1 := IntWalk.i64_in _ (by omega)
    have e5 : IntKind.u64.wrap (n.t + 1) = n.t + 1 := wu64 _ (by omega) (by omega)
    have e6 : IntKind.u64.wrap n.b = n.b := wu64 _ (by omega) (by omega)
    first
    | (go_region_held3 (fun w' => w'.cell? ⟨w.heap.size, 0, none⟩ = some (.int .u8 n.k) ∧ w'.cell? ⟨w.heap.size, 1, none⟩ = some (.int .i64 n.f) ∧ w'.cell? ⟨w.heap.size, 2, none⟩ = some (.int .i64 n.t) ∧ w'.cell? ⟨w.heap.size, 3, none⟩ = some (.int .i64 n.b) ∧ w'.cell? ⟨w.heap.size, 4, none⟩ = some (.int .u64 n.st) ∧ wb.grownBy w' none) (first | exact start HC HG1.out | exact start HC (grown_drew HG1.out) | assumption | exact more HC (by assumption) (by assumption)) (first
        | (go_at_call 22; ((with_reducible refine (HN1.out _).mono ?_); rintro e w9 ⟨rfl, hg9⟩))
        | (go_at_call 22; ((with_reducible refine (HN2.out _).mono ?_); rintro e w9 ⟨rfl, hg9⟩))
        | (go_at_call 22; ((with_reducible refine (HN3.out _).mono ?_); rintro e w9 ⟨rfl, hg9⟩))
        | (go_at_call 22; ((with_reducible refine (HN4.out _).mono ?_); rintro e w9 ⟨rfl, hg9⟩))
        | (go_at_call 22; ((with_reducible refine (HN5.out _).mono ?_); rintro e w9 ⟨rfl, hg9⟩))
        | (go_at_call 22; ((with_reducible refine (HN6.out _).mono ?_); rintro e w9 ⟨rfl, hg9⟩))))
    | fail
    clear e1 e2 e3 e4 e5 e6 ha2 ha3 ha4 ha5 ha6
    have HX := Lib.hid (show wb.grownBy _ none from And.right (And.right (And.right (And.right (And.right (by assumption))))))
    go_wp2_with fail
    go_loopw [5, 6] (fun a c wr => ∃ k : Nat, k ≤ 16 ∧ c = .int .i64 (k : Int) ∧ a = S (headb n ++ datb n.d k) ∧ wb.grownBy wr none) (fun _ c _ => 16 - (intOf c).toNat)
    case atStart => exact ⟨0, by omega, rfl, by rw [← HX6.out]; simp [datb], HX.out⟩
    case round =>
      obtain ⟨k, hk, rfl, rfl, hb⟩ := hrel
      have HBK := Lib.hid hb
      clear hb
      by_cases hlt : k < 16
      · obtain ⟨x, hx⟩ : ∃ x, n.d[k]? = some x := ⟨_, List.getElem?_eq_getElem (by rw [HN16.out]; exact hlt)⟩
        have hxb := HF.out.d x (List.mem_of_getElem? hx)
        have cx := cell_at (HCL.out _ HBK.out) (8 + k) (Value.int .u32 x) (by rw [nt_d, hx]; rfl)
        have HP4 := Lib.hid (rnumber_lit x hxb.1 (by omega) 4 (by omega) 4 rfl)
        have HS := Lib.hid (datb_succ n.d k x hx)
        obtain ⟨z0, hz0⟩ : ∃ z, z = headb n ++ datb n.d k := ⟨_, rfl⟩
        obtain ⟨z1, hz1⟩ : ∃ z, z = z0 ++ lowb x.toNat 4 := ⟨_, rfl⟩
        have hadd := fun w => add_s z0 (lowb x.toNat 4) (by rw [hz0, List.length_append, HLH.out, datb_len n.d k (by rw [HN16.out]; omega), lowb_len]; omega) w
        rw [← hz1] at hadd
        have HZ : Hid (z1 = headb n ++ datb n.d (k + 1)) := Lib.hid (by rw [hz1, hz0, HS.out, List.append_assoc])
        rw [← hz0]
        clear hz0 hz1 HS hx
        generalize lowb x.toNat 4 = y at *
        obtain ⟨q0, q1⟩ := hxb
        go_wp2_with (go_at_call 22; ((with_reducible refine (HP4.out _).mono ?_); rintro e w7 ⟨rfl, hb7⟩; have HB8 := Lib.hid hb7; clear hb7))
        go_roundw
        case rel => exact ⟨k + 1, by omega, by go_num, by rw [HZ.out], grown_trans HBK.out HB8.out⟩
        case measure => simp [intOf]; omega
      · obtain rfl : k = 16 := by omega
        go_wp2_with fail
        go_ret2
        exact ⟨rfl, grown_trans HG.out HBK.out⟩
  · have hgv : 4 * n.s + 2 + 1 = g := by have := HGF.out; unfold flg at this; rw [hh, hq] at this; simp at this; omega
    go_enter Tryd.func13, Tryd.ntmps13
    go_wp2_with (first
      | ((with_reducible refine load_nt n 1 w.heap.size ?_ (by rw [HWB.out]; exact HR.out) ?_); (rfl))
      | (go_at_call 15; (rw [HWB.out]; (with_reducible refine HM.out.mono ?_); rintro e w1 ⟨rfl, hg1⟩; have HG1 := Lib.hid hg1; clear hg1; have hr1 := HCL.out _ HG1.out; have c0 := cell_at hr1 0 _ rfl; have c1 := cell_at hr1 1 _ rfl; have c2 := cell_at hr1 2 _ rfl; have c3 := cell_at hr1 3 _ rfl; have c4 := cell_at hr1 4 _ rfl; have c5 := cell_at hr1 5 _ rfl; have c6 := cell_at hr1 6 _ rfl; have c7 := cell_at hr1 7 _ rfl; rw [hh] at c6; rw [hq] at c7; clear hr1)))
    clear c5 c6 c7
    have HC : Hid (∀ w', wb.grownBy w' none → w'.cell? ⟨w.heap.size, 0, none⟩ = some (.int .u8 n.k) ∧ w'.cell? ⟨w.heap.size, 1, none⟩ = some (.int .i64 n.f) ∧ w'.cell? ⟨w.heap.size, 2, none⟩ = some (.int .i64 n.t) ∧ w'.cell? ⟨w.heap.size, 3, none⟩ = some (.int .i64 n.b) ∧ w'.cell? ⟨w.heap.size, 4, none⟩ = some (.int .u64 n.st)) := Lib.hid fun w' h => by
      have hr := HCL.out _ h
      exact ⟨cell_at hr 0 _ rfl, cell_at hr 1 _ rfl, cell_at hr 2 _ rfl, cell_at hr 3 _ rfl, cell_at hr 4 _ rfl⟩
    clear c0 c1 c2 c3 c4
    have e1 : IntKind.u64.wrap n.k = n.k := wu64 _ (by omega) (by omega)
    have e2 : IntKind.i64.wrap (n.f + 1) = n.f + 1 := IntWalk.i64_in _ (by omega)
    have e3 : IntKind.u64.wrap (n.f + 1) = n.f + 1 := wu64 _ (by omega) (by omega)
    have e4 : IntKind.i64.wrap (n.t + 1) = n.t + 1 := IntWalk.i64_in _ (by omega)
    have e5 : IntKind.u64.wrap (n.t + 1) = n.t + 1 := wu64 _ (by omega) (by omega)
    have e6 : IntKind.u64.wrap n.b = n.b := wu64 _ (by omega) (by omega)
    first
    | (go_region_held3 (fun w' => w'.cell? ⟨w.heap.size, 0, none⟩ = some (.int .u8 n.k) ∧ w'.cell? ⟨w.heap.size, 1, none⟩ = some (.int .i64 n.f) ∧ w'.cell? ⟨w.heap.size, 2, none⟩ = some (.int .i64 n.t) ∧ w'.cell? ⟨w.heap.size, 3, none⟩ = some (.int .i64 n.b) ∧ w'.cell? ⟨w.heap.size, 4, none⟩ = some (.int .u64 n.st) ∧ wb.grownBy w' none) (first | exact start HC HG1.out | exact start HC (grown_drew HG1.out) | assumption | exact more HC (by assumption) (by assumption)) (first
        | (go_at_call 22; ((with_reducible refine (HN1.out _).mono ?_); rintro e w9 ⟨rfl, hg9⟩))
        | (go_at_call 22; ((with_reducible refine (HN2.out _).mono ?_); rintro e w9 ⟨rfl, hg9⟩))
        | (go_at_call 22; ((with_reducible refine (HN3.out _).mono ?_); rintro e w9 ⟨rfl, hg9⟩))
        | (go_at_call 22; ((with_reducible refine (HN4.out _).mono ?_); rintro e w9 ⟨rfl, hg9⟩))
        | (go_at_call 22; ((with_reducible refine (HN5.out _).mono ?_); rintro e w9 ⟨rfl, hg9⟩))
        | (go_at_call 22; ((with_reducible refine (HN6.out _).mono ?_); rintro e w9 ⟨rfl, hg9⟩))))
    | fail
    clear e1 e2 e3 e4 e5 e6 ha2 ha3 ha4 ha5 ha6
    have HX := Lib.hid (show wb.grownBy _ none from And.right (And.right (And.right (And.right (And.right (by assumption))))))
    go_wp2_with fail
    go_loopw [5, 6] (fun a c wr => ∃ k : Nat, k ≤ 16 ∧ c = .int .i64 (k : Int) ∧ a = S (headb n ++ datb n.d k) ∧ wb.grownBy wr none) (fun _ c _ => 16 - (intOf c).toNat)
    case atStart => exact ⟨0, by omega, rfl, by rw [← HX6.out]; simp [datb], HX.out⟩
    case round =>
      obtain ⟨k, hk, rfl, rfl, hb⟩ := hrel
      have HBK := Lib.hid hb
      clear hb
      by_cases hlt : k < 16
      · obtain ⟨x, hx⟩ : ∃ x, n.d[k]? = some x := ⟨_, List.getElem?_eq_getElem (by rw [HN16.out]; exact hlt)⟩
        have hxb := HF.out.d x (List.mem_of_getElem? hx)
        have cx := cell_at (HCL.out _ HBK.out) (8 + k) (Value.int .u32 x) (by rw [nt_d, hx]; rfl)
        have HP4 := Lib.hid (rnumber_lit x hxb.1 (by omega) 4 (by omega) 4 rfl)
        have HS := Lib.hid (datb_succ n.d k x hx)
        obtain ⟨z0, hz0⟩ : ∃ z, z = headb n ++ datb n.d k := ⟨_, rfl⟩
        obtain ⟨z1, hz1⟩ : ∃ z, z = z0 ++ lowb x.toNat 4 := ⟨_, rfl⟩
        have hadd := fun w => add_s z0 (lowb x.toNat 4) (by rw [hz0, List.length_append, HLH.out, datb_len n.d k (by rw [HN16.out]; omega), lowb_len]; omega) w
        rw [← hz1] at hadd
        have HZ : Hid (z1 = headb n ++ datb n.d (k + 1)) := Lib.hid (by rw [hz1, hz0, HS.out, List.append_assoc])
        rw [← hz0]
        clear hz0 hz1 HS hx
        generalize lowb x.toNat 4 = y at *
        obtain ⟨q0, q1⟩ := hxb
        go_wp2_with (go_at_call 22; ((with_reducible refine (HP4.out _).mono ?_); rintro e w7 ⟨rfl, hb7⟩; have HB8 := Lib.hid hb7; clear hb7))
        go_roundw
        case rel => exact ⟨k + 1, by omega, by go_num, by rw [HZ.out], grown_trans HBK.out HB8.out⟩
        case measure => simp [intOf]; omega
      · obtain rfl : k = 16 := by omega
        go_wp2_with fail
        go_ret2
        exact ⟨rfl, grown_trans HG.out HBK.out⟩
end Go.Proofs.YthmnjoanehepcaaDoor.nn
