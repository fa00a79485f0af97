/-
  One note arrives at the home: the law's one. Condition: the tables lie in their variables as the program's text has them.
-/
import Derived.Test.YtenhdijbcdkfbaaDoorHlQ
namespace Go.Proofs.YtenhdijbcdkfbaaDoor.hh
open Go Go.ChangeShapes Go.WideShapes Go.ChangeAt Go.RowKit
open Go.Proofs.YtenhdijbcdkfbaaDoor.tt (Nt Cfg fits net bare zd usd uses coreOf ok_ends MapAt mput mdel ik NPool NSl Turn flat na nt zn grown_alloc grown_refl grown_trans tyne lt_of)
open Go.Proofs.YtenhdijbcdkfbaaDoor.en (En gets back asked asks free ask_parts may_parts ea)
open Go.Proofs.YtenhdijbcdkfbaaDoor.mm (wi wo ones wo_lt)
set_option linter.unusedVariables false
set_option linter.unusedSimpArgs false

theorem placeq (pl : Int) (q : Nat) (hq : 0 < q) (h : q ≤ 2000000000) : ∃ kk : Nat, kk < q ∧ (IntKind.i64.wrap (pl.tmod (q : Int) + (q : Int))).tmod (q : Int) = (kk : Int) := by
  have hp : (0 : Int) < (q : Int) := by omega
  have h1 := Int.tmod_lt_of_pos pl hp
  have h2 := Int.lt_tmod_of_pos pl hp
  have hw : IntKind.i64.wrap (pl.tmod (q : Int) + (q : Int)) = pl.tmod (q : Int) + (q : Int) := IntWalk.i64_in _ (by omega)
  rw [hw]
  have h3 := Int.tmod_nonneg (q : Int) (show (0 : Int) ≤ pl.tmod (q : Int) + (q : Int) by omega)
  have h4 := Int.tmod_lt_of_pos (pl.tmod (q : Int) + (q : Int)) hp
  exact ⟨((pl.tmod (q : Int) + (q : Int)).tmod (q : Int)).toNat, by omega, by omega⟩
/-- What goes out of a home has a block and a core. -/
theorem begin1_key {c : Cfg} {H : Hm} (h : Inv c H) (n : Nt) (hn : Asks c n) : ∀ x ∈ (begin1 H n).2, 0 ≤ x.t ∧ x.t ≤ 31 := fun x hx => by
  have hc := asks_core hn
  rcases begin1_ways h n hn with ⟨_, e⟩ | ⟨_, _, e⟩ | ⟨_, _, e⟩ <;> rw [e] at hx
  · rw [List.mem_singleton.1 hx]; show 0 ≤ n.f ∧ n.f ≤ 31; omega
  · rw [List.mem_singleton.1 hx, (dataN_parts _ _ _ _).2.2.1]; omega
  · obtain ⟨y, hy, rfl⟩ := List.mem_map.1 hx
    have := (en.ones_mem.1 hy).1
    show 0 ≤ (y : Int) ∧ (y : Int) ≤ 31; omega
theorem run_key {c : Cfg} (b : Nat) : ∀ (rest : List Nt) (H : Hm) (pre : List Nt), Inv c H → (∀ n ∈ rest, Asks c n) → ∀ x ∈ (run b H pre rest).2, 0 ≤ x.t ∧ x.t ≤ 31
  | [], H, pre, h, hr => fun x hx => by cases hx
  | n :: rest, H, pre, h, hr => by
    have hn := hr n (by simp)
    have hr' : ∀ m ∈ rest, Asks c m := fun m hm => hr m (by simp [hm])
    unfold run
    split
    · exact fun x hx => by cases hx
    · split
      · intro x hx
        rcases List.mem_append.1 hx with hx | hx
        · exact begin1_key h n hn x hx
        · exact run_key b rest _ pre (h.begin1 n hn) hr' x hx
      · exact run_key b rest H (pre ++ [n]) h hr'
theorem answer_key {c : Cfg} {H : Hm} (h : Inv c H) (b : Nat) : ∀ x ∈ (answer H b).2, 0 ≤ x.t ∧ x.t ≤ 31 := fun x hx => by
  unfold answer at hx
  split at hx
  · cases hx
  · rename_i j hj
    have hc := asks_core (h.jobs b j (jbOf_get hj)).asks
    rw [List.mem_singleton.1 hx, (dataN_parts _ _ _ _).2.2.1]; omega
theorem take_key {c : Cfg} {H : Hm} (h : Inv c H) (n : Nt) (hw : Word n) : ∀ x ∈ (take c H n).2.1, Key x := fun x hx => by
  by_cases hr : ready c H n = 0
  · have ho := take_of h n hw x hx
    obtain ⟨hf, _⟩ := ready_fits hr
    have hb := blk_lt hf
    have hd := data_256 h.may
    have hfd : n.b < c.data := hf.2.2
    refine ⟨by rw [ho.2]; omega, ?_⟩
    rcases take_ways h n hr with ⟨_, _, _, e⟩ | ⟨ha, _, e⟩ | ⟨_, _, e⟩ | ⟨_, j, hj, _, _, ⟨_, e⟩ | ⟨_, _, e⟩ | ⟨_, _, e⟩⟩ <;> rw [e] at hx
    · cases hx
    · exact begin1_key h n ha x hx
    · exact run_key n.b.toNat H.wt _ [] (h.job n.b.toNat none fun j hj => by cases hj) h.wait x hx
    · cases hx
    · have hi := h.noted n hf j hj hw
      rcases List.mem_cons.1 hx with rfl | hx
      · have hc := asks_core (h.jobs _ j (jbOf_get hj)).asks
        show 0 ≤ j.a.f ∧ j.a.f ≤ 31; omega
      · exact run_key n.b.toNat _ _ [] (hi.job n.b.toNat none fun j hj => by cases hj) hi.wait x hx
    · exact answer_key (h.noted n hf j hj hw) _ x hx
  · rw [take_err hr] at hx; cases hx
set_option maxRecDepth 1000000 in
set_option maxHeartbeats 40000000 in
theorem one_any {wz w : World} {fb h : Nat} {c : Cfg} {F : Ft} {H : Hm} {qd qc : Nat} {vw : Value} {way : List Nt} {D C : Int → Int → Int} (T : Tabs wz) (O : Own wz w h c F H) (L : FlAt w wz.heap.size fb h F qd qc vw way D C) (k0 co b0 p : Int) (rf : Bool)
    (hI : FI c H way (fun x b => D x b - C x b)) (hne : way ≠ []) (hC : ∀ a q, 0 ≤ C a q ∧ C a q ≤ 900000000) (hw : way.length ≤ 900000000) :
    Calls Tryd.prog 25 #[.pointer (some ⟨fb, 0, none⟩), .agg #[.int .u8 k0, .int .i64 co, .int .i64 b0, .int .i64 p, .bool rf]] w fun e w' => e = .returned (.bool true) ∧ ∃ F' H' v' way' out, Own wz w' h c F' H' ∧ FlAt w' wz.heap.size fb h F' qd qc v' way' D (fun a q => C a q + came out a q) ∧
      FI c H' way' (fun x b => D x b - (C x b + came out x b)) ∧ Pot H' + 1 ≤ Pot H ∧ way'.length ≤ way.length + 2641 ∧ out.length ≤ 2641 := by
  obtain ⟨q, hq⟩ : ∃ q, q = way.length := ⟨_, rfl⟩
  have hq0 : 0 < q := by rw [hq]; exact List.length_pos_iff.2 hne
  rw [← hq] at hw
  obtain ⟨kk, hk, hix⟩ := placeq p q hq0 (by omega)
  obtain ⟨n, hn⟩ : ∃ n, way[kk]? = some n := ⟨_, List.getElem?_eq_getElem (by omega)⟩
  obtain ⟨hrd, her, hI2, hP2⟩ := one_step rf hI kk n hn
  have hWn := (hI.w.ok n (List.mem_of_getElem? hn)).word
  have hkey := take_key hI.w.inv n hWn
  have htl := take_len O.at' n
  obtain ⟨g, off, cap, hvw, hr⟩ : ∃ g off, ∃ cap, vw = .slice (some ⟨g, off, none⟩) q cap ∧ w.rangeAt g (off + kk * 24) (nt n) := by
    obtain ⟨ad, cap, e⟩ := L.sl.form
    have hsl := L.sl
    rw [e, ← hq] at hsl
    obtain ⟨g, off, e2, _, hr⟩ := tt.nsl_at hsl kk n hn
    exact ⟨g, off, cap, by rw [e, e2, hq], hr⟩
  subst hvw
  have hsl : tt.Sl w 31 24 (.slice (some ⟨g, off, none⟩) q cap) q (flat nt way) := by have h9 : tt.Sl w 31 24 (.slice (some ⟨g, off, none⟩) q cap) way.length (flat nt way) := L.sl; rw [← hq] at h9; exact h9
  obtain ⟨hcap, hqc⟩ : cap ≤ 9223372036854775807 ∧ q ≤ cap := by
    rcases hsl with ⟨h, _⟩ | ⟨g', off', cap', cur, h, hb, h1, h2, h3, h4, h5⟩
    · cases h
    · cases h; unfold maxLen at h3; exact ⟨by omega, h2⟩
  have HQ := qh hq
  have HIX := qh hix
  have HN := qh hn
  have HI2 := qh hI2
  have HP2 := qh hP2
  have HER := qh her
  have HWN := qh hWn
  have HKY := qh hkey
  have HTL := qh htl
  have HR := qh hr
  have HT := qh T
  have HO := qh O
  have HL := qh L
  have HC := qh hC
  have HWL := qh hw
  have HCAP := qh hcap
  have HQC := qh hqc
  have HK := qh hk
  obtain ⟨i0, hi, hz0, hz1, hz2⟩ := info_parts tt.infoN
  have hq1 : ((q : Int) == 0) = false := by simp; omega
  have hq2 : ¬ (q : Int) = 0 := by omega
  have hq3 : ¬ q = 0 := by omega
  clear hI hix hn hrd her hI2 hP2 hWn hkey htl hr T O L hC hq hsl hcap hqc hne hw
  go_enter Tryd.func25, Tryd.ntmps25
  go_wp2_with fail
  obtain ⟨w1, hw1⟩ : ∃ x, w.alloc (.cells #[.int .u8 k0, .int .i64 co, .int .i64 b0, .int .i64 p, .bool rf] 63) = x := ⟨_, rfl⟩
  obtain ⟨BA, hBA⟩ : ∃ B, w.heap.size = B := ⟨_, rfl⟩
  have hg1 : w.grownBy w1 none := by rw [← hw1]; exact grown_alloc (grown_refl _ _) _
  have HA1 : Hid (w1.heap[BA]? = some (.cells #[.int .u8 k0, .int .i64 co, .int .i64 b0, .int .i64 p, .bool rf] 63 (0, 0))) := qh (by rw [← hw1, ← hBA]; exact heap_alloc_new _ _)
  have HG1 := qh hg1
  have HBL : Hid (w.heap.size ≤ BA) := qh (Nat.le_of_eq hBA)
  have HNA : Hid (¬ F.own BA) := qh (fun e => by have := HO.out.at'.own_lt e; omega)
  rw [hw1, hBA]
  clear hw1 hBA hg1
  have HKF : Hid (∀ w', w1.grownBy w' none → w'.cell? ⟨BA, 3, none⟩ = some (.int .i64 p) ∧ w'.cell? ⟨fb, 1, none⟩ = some (.slice (some ⟨g, off, none⟩) q cap)) := qh fun w' h' => ⟨cr (row_up HA1.out h') 3 rfl, cr (HL.out.grown (grown_trans HG1.out h')).blk 1 rfl⟩
  refine wp_region_held_drew (S := fun w' => w1.grownBy w' none) (by kernel_rfl) (tt.grown_drew (grown_refl _ _)) (fun hHeld => ?_)
  generalize w1.drew = wd at hHeld ⊢
  refine hh.tl 0 ⟨some 9, Op.fieldAddr 63 (.tmp 3) 3, _, _, _, _⟩ ?v1 rfl ?hy1 ?_
  case hy1 => ((intro w0 hSw; go_simp); try (with_reducible rfl))
  try simp only [lay]
  refine hh.tl 1 ⟨some 10, Op.load 3 (.tmp 9), _, _, _, _⟩ ?v2 rfl ?hy2 ?_
  case hy2 => ((intro w0 hSw; obtain ⟨hs1, hs2⟩ := HKF.out w0 hSw; go_simp); try (with_reducible rfl))
  try simp only [lay]
  refine hh.tl 2 ⟨some 11, Op.move (.tmp 0), _, _, _, _⟩ ?v3 rfl ?hy3 ?_
  case hy3 => ((intro w0 hSw; go_simp); try (with_reducible rfl))
  try simp only [lay]
  refine hh.tl 3 ⟨some 12, Op.nilCheck (.tmp 11), _, _, _, _⟩ ?v4 rfl ?hy4 ?_
  case hy4 => ((intro w0 hSw; go_simp); try (with_reducible rfl))
  try simp only [lay]
  refine hh.tl 4 ⟨some 13, Op.fieldAddr 61 (.tmp 12) 1, _, _, _, _⟩ ?v5 rfl ?hy5 ?_
  case hy5 => ((intro w0 hSw; go_simp); try (with_reducible rfl))
  try simp only [lay]
  refine hh.tl 5 ⟨some 14, Op.load 42 (.tmp 13), _, _, _, _⟩ ?v6 rfl ?hy6 ?_
  case hy6 => ((intro w0 hSw; obtain ⟨hs1, hs2⟩ := HKF.out w0 hSw; go_simp); try (with_reducible rfl))
  try simp only [lay]
  refine hh.tl 6 ⟨some 15, Op.call { callee := Callee.builtin Builtin.len, args := #[(.tmp 14)], argTypes := #[42] }, _, _, _, _⟩ ?v7 rfl ?hy7 ?_
  case hy7 => ((intro w0 hSw; go_simp); try (with_reducible rfl))
  try simp only [lay]
  refine hh.tl 7 ⟨some 16, Op.binOp BinOp.rem 3 (.tmp 10) (.tmp 15) _, _, _, _, _⟩ ?v8 rfl ?hy8 ?_
  case hy8 => ((intro w0 hSw; go_simp); try (with_reducible rfl))
  try simp only [lay]
  refine hh.tl 8 ⟨some 17, Op.move (.tmp 0), _, _, _, _⟩ ?v9 rfl ?hy9 ?_
  case hy9 => ((intro w0 hSw; go_simp); try (with_reducible rfl))
  try simp only [lay]
  refine hh.tl 9 ⟨some 18, Op.nilCheck (.tmp 17), _, _, _, _⟩ ?v10 rfl ?hy10 ?_
  case hy10 => ((intro w0 hSw; go_simp); try (with_reducible rfl))
  try simp only [lay]
  refine hh.tl 10 ⟨some 19, Op.fieldAddr 61 (.tmp 18) 1, _, _, _, _⟩ ?v11 rfl ?hy11 ?_
  case hy11 => ((intro w0 hSw; go_simp); try (with_reducible rfl))
  try simp only [lay]
  refine hh.tl 11 ⟨some 20, Op.load 42 (.tmp 19), _, _, _, _⟩ ?v12 rfl ?hy12 ?_
  case hy12 => ((intro w0 hSw; obtain ⟨hs1, hs2⟩ := HKF.out w0 hSw; go_simp); try (with_reducible rfl))
  try simp only [lay]
  refine hh.tl 12 ⟨some 21, Op.call { callee := Callee.builtin Builtin.len, args := #[(.tmp 20)], argTypes := #[42] }, _, _, _, _⟩ ?v13 rfl ?hy13 ?_
  case hy13 => ((intro w0 hSw; go_simp); try (with_reducible rfl))
  try simp only [lay]
  refine hh.tl 13 ⟨some 22, Op.binOp BinOp.add 3 (.tmp 16) (.tmp 21) _, _, _, _, _⟩ ?v14 rfl ?hy14 ?_
  case hy14 => ((intro w0 hSw; go_simp); try (with_reducible rfl))
  try simp only [lay]
  refine hh.tl 14 ⟨some 23, Op.move (.tmp 0), _, _, _, _⟩ ?v15 rfl ?hy15 ?_
  case hy15 => ((intro w0 hSw; go_simp); try (with_reducible rfl))
  try simp only [lay]
  refine hh.tl 15 ⟨some 24, Op.nilCheck (.tmp 23), _, _, _, _⟩ ?v16 rfl ?hy16 ?_
  case hy16 => ((intro w0 hSw; go_simp); try (with_reducible rfl))
  try simp only [lay]
  refine hh.tl 16 ⟨some 25, Op.fieldAddr 61 (.tmp 24) 1, _, _, _, _⟩ ?v17 rfl ?hy17 ?_
  case hy17 => ((intro w0 hSw; go_simp); try (with_reducible rfl))
  try simp only [lay]
  refine hh.tl 17 ⟨some 26, Op.load 42 (.tmp 25), _, _, _, _⟩ ?v18 rfl ?hy18 ?_
  case hy18 => ((intro w0 hSw; obtain ⟨hs1, hs2⟩ := HKF.out w0 hSw; go_simp); try (with_reducible rfl))
  try simp only [lay]
  refine hh.tl 18 ⟨some 27, Op.call { callee := Callee.builtin Builtin.len, args := #[(.tmp 26)], argTypes := #[42] }, _, _, _, _⟩ ?v19 rfl ?hy19 ?_
  case hy19 => ((intro w0 hSw; go_simp); try (with_reducible rfl))
  try simp only [lay]
  refine hh.tl 19 ⟨some 28, Op.binOp BinOp.rem 3 (.tmp 22) (.tmp 27) _, _, _, _, _⟩ ?v20 rfl ?hy20 ?_
  case hy20 => ((intro w0 hSw; go_simp); try (with_reducible rfl))
  try simp only [lay]
  refine hh.tl 20 ⟨some 5, Op.assign (.tmp 28), _, _, _, _⟩ ?v21 rfl ?hy21 ?_
  case hy21 => ((intro w0 hSw; go_simp); try (with_reducible rfl))
  try simp only [lay]
  refine wpAnyH_done (by kernel_rfl) ?_ _
  rw [HIX.out]
  have HGD := qh hHeld
  clear hHeld
  obtain ⟨_, hc1⟩ := HKF.out wd HGD.out
  have hkq := HK.out
  go_wp2_with (first
    | ((with_reducible refine tt.load_na n _ g (off + kk * 24) ?_ (tt.range_grown HR.out (grown_trans HG1.out HGD.out) (by simp)) ?_); (rfl))
    | ((with_reducible refine tt.store_new n _ _ _ ?_ ?_ ?_ ?_); (rfl); (rfl); (rfl)))
  obtain ⟨wn, hwn⟩ : ∃ x, wd.alloc (.cells (na n) 31) = x := ⟨_, rfl⟩
  obtain ⟨BN, hBN⟩ : ∃ B, wd.heap.size = B := ⟨_, rfl⟩
  have hgn : wd.grownBy wn none := by rw [← hwn]; exact grown_alloc (grown_refl _ _) _
  have HNR : Hid (wn.heap[BN]? = some (.cells (na n) 31 (0, 0))) := qh (by rw [← hwn, ← hBN]; exact heap_alloc_new _ _)
  have HGN := qh (grown_trans (grown_trans HG1.out HGD.out) hgn)
  have HAN := qh (row_up HA1.out (grown_trans HGD.out hgn))
  have HNL : Hid (w.heap.size ≤ BN) := qh (by have := HG1.out.size; have := HGD.out.size; omega)
  rw [hwn, hBN]
  clear hwn hBN hgn hc1 HKF HA1 HG1 HGD
  have hsl : tt.Sl w 31 24 (.slice (some ⟨g, off, none⟩) q cap) q (flat nt way) := by have h9 : tt.Sl w 31 24 (.slice (some ⟨g, off, none⟩) q cap) way.length (flat nt way) := HL.out.sl; rw [← HQ.out] at h9; exact h9
  have HSE : Hid (∀ w', w.grownBy w' none → tt.Sl w' 31 24 (.slice (some ⟨g, off, none⟩) q cap) q (flat nt way)) := qh fun w' h' => hsl.grown h'
  obtain ⟨A, hA, _, _, hAg⟩ := tt.tail_sl (P := Tryd.prog) hsl (kk + 1) (by omega) Tryd.underlying42 (tt.nflat_one way)
  have HHD : Hid (∀ w', w.grownBy w' none → tt.Sl w' 31 24 (.slice (some ⟨g, off, none⟩) kk kk) kk ((flat nt way).take (kk * 24))) := qh fun w' h' => tt.head_sl (hsl.grown h') kk (by omega) kk (Nat.le_refl _) (by have := HQC.out; omega)
  have HSS : Hid (∀ w', w.grownBy w' none → Src Tryd.prog 24 42 (.slice (some A) (q - (kk + 1)) (cap - (kk + 1))) (q - (kk + 1)) ((flat nt way).drop ((kk + 1) * 24)) w') := qh fun w' h' => by
    obtain ⟨A', hA', hs, _, _⟩ := tt.tail_sl (P := Tryd.prog) (hsl.grown h') (kk + 1) (by omega) Tryd.underlying42 (tt.nflat_one way)
    rw [hA] at hA'; cases hA'; exact hs
  have HE := qh (tt.flat_erase tt.nt_len way kk (by rw [← HQ.out]; exact HK.out))
  have HNN : Hid ((way.eraseIdx kk).length = kk + (q - (kk + 1))) := qh (by rw [List.length_eraseIdx_of_lt (by rw [← HQ.out]; exact HK.out), ← HQ.out]; omega)
  have hkc : kk ≤ cap := by have := HQC.out; omega
  have hkc1 : kk + 1 ≤ cap := by have := HQC.out; omega
  have hkl1 : kk + 1 ≤ q := by omega
  have hwr : IntKind.i64.wrap ((kk : Int) + 1) = ((kk : Int) + 1) := IntWalk.i64_in _ (by have := HWL.out; omega)
  have ht : ((kk : Int) + 1).toNat = kk + 1 := by omega
  have hk1 : 0 ≤ (kk : Int) + 1 := by omega
  have hk2 : (kk : Int) + 1 ≤ (q : Int) := by omega
  have hcap := HCAP.out
  clear hsl hAg
  refine wp_region_held_drew (S := fun w' => w'.heap[BN]? = some (.cells (na n) 31 (0, 0)) ∧ w'.heap[BA]? = some (.cells #[.int .u8 k0, .int .i64 co, .int .i64 b0, .int .i64 p, .bool rf] 63 (0, 0))) (by kernel_rfl) ⟨HNR.out, HAN.out⟩ (fun hHeld => ?_)
  have HGQ := qh (tt.grown_drew HGN.out)
  have HHQ : Hid (wn.drew.heap[BN]? = some (.cells (na n) 31 (0, 0)) ∧ wn.drew.heap[BA]? = some (.cells #[.int .u8 k0, .int .i64 co, .int .i64 b0, .int .i64 p, .bool rf] 63 (0, 0))) := qh ⟨HNR.out, HAN.out⟩
  generalize wn.drew = wq at hHeld HGQ HHQ ⊢
  have hc4 : wq.cell? ⟨fb, 1, none⟩ = some (.slice (some ⟨g, off, none⟩) q cap) := cr (HL.out.grown HGQ.out).blk 1 rfl
  refine hh.tl 0 ⟨some 36, Op.move (.tmp 0), _, _, _, _⟩ ?v22 rfl ?hy22 ?_
  case hy22 => ((intro w0 hSw; go_simp); try (with_reducible rfl))
  try simp only [lay]
  refine hh.tl 1 ⟨some 37, Op.move (.tmp 0), _, _, _, _⟩ ?v23 rfl ?hy23 ?_
  case hy23 => ((intro w0 hSw; go_simp); try (with_reducible rfl))
  try simp only [lay]
  refine hh.tl 2 ⟨some 38, Op.nilCheck (.tmp 37), _, _, _, _⟩ ?v24 rfl ?hy24 ?_
  case hy24 => ((intro w0 hSw; go_simp); try (with_reducible rfl))
  try simp only [lay]
  refine hh.tl 3 ⟨some 39, Op.fieldAddr 61 (.tmp 38) 1, _, _, _, _⟩ ?v25 rfl ?hy25 ?_
  case hy25 => ((intro w0 hSw; go_simp); try (with_reducible rfl))
  try simp only [lay]
  refine hh.tl 5 ⟨some 41, Op.move (.tmp 5), _, _, _, _⟩ ?v26 rfl ?hy26 ?_
  case hy26 => ((intro w0 hSw; go_simp); try (with_reducible rfl))
  try simp only [lay]
  refine hh.tl 6 ⟨some 42, Op.move (.tmp 5), _, _, _, _⟩ ?v27 rfl ?hy27 ?_
  case hy27 => ((intro w0 hSw; go_simp); try (with_reducible rfl))
  try simp only [lay]
  refine hh.tl 8 ⟨some 44, Op.move (.tmp 0), _, _, _, _⟩ ?v28 rfl ?hy28 ?_
  case hy28 => ((intro w0 hSw; go_simp); try (with_reducible rfl))
  try simp only [lay]
  refine hh.tl 9 ⟨some 45, Op.nilCheck (.tmp 44), _, _, _, _⟩ ?v29 rfl ?hy29 ?_
  case hy29 => ((intro w0 hSw; go_simp); try (with_reducible rfl))
  try simp only [lay]
  refine hh.tl 10 ⟨some 46, Op.fieldAddr 61 (.tmp 45) 1, _, _, _, _⟩ ?v30 rfl ?hy30 ?_
  case hy30 => ((intro w0 hSw; go_simp); try (with_reducible rfl))
  try simp only [lay]
  refine hh.tl 12 ⟨some 48, Op.move (.tmp 5), _, _, _, _⟩ ?v31 rfl ?hy31 ?_
  case hy31 => ((intro w0 hSw; go_simp); try (with_reducible rfl))
  try simp only [lay]
  refine hh.tl 13 ⟨some 49, Op.binOp BinOp.add 3 (.tmp 48) (.const (Value.int IntKind.i64 1)) _, _, _, _, _⟩ ?v32 rfl ?hy32 ?_
  case hy32 => ((intro w0 hSw; go_simp); try (with_reducible rfl))
  try simp only [lay]
  refine wpAnyH_ready (rs := [4, 11]) (by kernel_rfl) (by simp) ?_
  refine AllReadyH.cons (o := ⟨some 40, Op.load 42 (.tmp 39), _, _, _, _⟩) rfl (fun K hK => ?_) (AllReadyH.cons (o := ⟨some 47, Op.load 42 (.tmp 46), _, _, _, _⟩) rfl (fun K hK => ?_) AllReadyH.nil)
  · skip
    go_simp
    refine hK.out _ _ HHQ.out (fun hHeld => ?_)
    clear hK K
    try simp only [lay]
    refine hh.tl 7 ⟨some 43, Op.slice 42 (.tmp 40) none (some (.tmp 41)) (some (.tmp 42)), _, _, _, _⟩ ?v33 rfl ?hy33 ?_
    case hy33 => ((intro w0 hSw; go_simp); try (with_reducible rfl))
    try simp only [lay]
    refine rdo (i := 11) (o := ⟨some 47, Op.load 42 (.tmp 46), _, _, _, _⟩) rfl (fun K hK => ?_)
    go_simp
    refine hK.out _ _ HHQ.out (fun hHeld => ?_)
    clear hK K
    try simp only [lay]
    refine hh.tl 14 ⟨some 50, Op.slice 42 (.tmp 47) (some (.tmp 49)) none none, _, _, _, _⟩ ?v34 rfl ?hy34 ?_
    case hy34 => ((intro w0 hSw; go_simp); try (with_reducible rfl))
    try simp only [lay]
    refine rdo (i := 15) (o := ⟨some 51, Op.call { callee := Callee.builtin Builtin.append, args := #[(.tmp 43), (.tmp 50)], argTypes := #[42, 42] }, _, _, _, _⟩) rfl (fun K hK => ?_)
    refine tt.step_append_sl rfl (Operand.tmp 43) (Operand.tmp 50) 42 42 rfl 31 24 i0 (.agg (na zn)) 112 Tryd.underlying42 hi hz0 hz1 hz2 tt.zn_cells (.slice (some ⟨g, off, none⟩) kk kk) kk ((flat nt way).take (kk * 24)) rfl (HHD.out _ HGQ.out) _ _ (HSS.out _ HGQ.out) (by have := HWL.out; unfold maxLen; omega) (by have := HWL.out; omega) ?_
    intro v3 w3 hsl3 hgr3 hnx3
    obtain ⟨ad3, cap3, hv3⟩ := hsl3.form
    obtain ⟨n3, hn3⟩ : ∃ m, m = kk + (q - (kk + 1)) := ⟨_, rfl⟩
    rw [← hn3] at hv3
    subst hv3
    have hsl4 : NSl w3 (.slice ad3 n3 cap3) (way.eraseIdx kk) := by
      have h9 := hsl3
      rw [HE.out, ← HNN.out] at h9
      exact h9
    obtain ⟨⟨hc6, hf6⟩, hL3, hM3⟩ := HL.out.put HO.out.old.size (fun i hi => HO.out.at'.own_lt hi) HGQ.out hsl4 hgr3 hnx3
    have HB3 : Hid (w3.heap[BN]? = some (.cells (na n) 31 (0, 0)) ∧ w3.heap[BA]? = some (.cells #[.int .u8 k0, .int .i64 co, .int .i64 b0, .int .i64 p, .bool rf] 63 (0, 0))) := qh ⟨(hgr3.block _ (lt_of HHQ.out.1) (fun e => by have := HL.out.sl.lt _ e.symm; have := HNL.out; omega)).trans HHQ.out.1, (hgr3.block _ (lt_of HHQ.out.2) (fun e => by have := HL.out.sl.lt _ e.symm; have := HBL.out; omega)).trans HHQ.out.2⟩
    have HL3 := qh hL3
    have HM3 := qh hM3
    clear hsl3 hgr3 hnx3 hL3 hM3 hsl4 hn3
    refine hK.out _ _ HB3.out (fun hHeld => ?_)
    clear hK K
    try simp only [lay]
    refine hh.tl 16 ⟨some 52, Op.nilCheck (.tmp 36), _, _, _, _⟩ ?v35 rfl ?hy35 ?_
    case hy35 => ((intro w0 hSw; go_simp); try (with_reducible rfl))
    try simp only [lay]
    refine hh.tl 17 ⟨some 53, Op.fieldAddr 61 (.tmp 52) 1, _, _, _, _⟩ ?v36 rfl ?hy36 ?_
    case hy36 => ((intro w0 hSw; go_simp); try (with_reducible rfl))
    try simp only [lay]
    refine rdo (i := 18) (o := ⟨none, Op.store 42 (.tmp 53) (.tmp 51), _, _, _, _⟩) rfl (fun K hK => ?_)
    go_simp
    obtain ⟨wE, hwE⟩ : ∃ x, w3.setCell ⟨fb, 1, none⟩ (.slice ad3 n3 cap3) = x := ⟨_, rfl⟩
    have HBE : Hid (wE.heap[BN]? = some (.cells (na n) 31 (0, 0)) ∧ wE.heap[BA]? = some (.cells #[.int .u8 k0, .int .i64 co, .int .i64 b0, .int .i64 p, .bool rf] 63 (0, 0))) := qh (by rw [← hwE]; exact ⟨(Below.heap_setCell _ _ _ _ (fun e => by have := HL.out.lt; have := HNL.out; dsimp only at e; omega)).trans HB3.out.1, (Below.heap_setCell _ _ _ _ (fun e => by have := HL.out.lt; have := HBL.out; dsimp only at e; omega)).trans HB3.out.2⟩)
    rw [hwE] at HL3 HM3 ⊢
    refine hK.out _ _ HBE.out (fun hHeld => ?_)
    clear hK K
    try simp only [lay]
    refine wpAnyH_done (by kernel_rfl) ?_ _
    clear hHeld hc4 hc6 hf6 hwE
    have HO3 := qh (HO.out.mv HL.out HM3.out)
    go_wp2_with fail
    obtain ⟨t', mm', HTT, hagg, hsize, hld⟩ := tt.named
    have HLD := qh hld
    clear hld
    rw [HTT.out]
    have HNB : Hid (¬ F.own BN ∧ ¬ F.own BA) := qh ⟨fun e => by have := HO.out.at'.own_lt e; have := HNL.out; omega, HNA.out⟩
    refine wp_region_held_drew (S := fun w' => w'.cell? ⟨fb, 0, none⟩ = some (.pointer (some ⟨h, 0, none⟩)) ∧ w'.heap[BN]? = some (.cells (na n) 31 (0, 0)) ∧ w'.heap[BA]? = some (.cells #[.int .u8 k0, .int .i64 co, .int .i64 b0, .int .i64 p, .bool rf] 63 (0, 0))) (by kernel_rfl) ⟨cr HL3.out.blk 0 rfl, HBE.out.1, HBE.out.2⟩ (fun hHeld => ?_)
    have HL4 := qh (HL3.out.grown (tt.grown_drew (grown_refl _ none)))
    have HO4 := qh (HO3.out.grown (tt.grown_drew (grown_refl _ none)))
    have HB4 : Hid (wE.drew.heap[BN]? = some (.cells (na n) 31 (0, 0)) ∧ wE.drew.heap[BA]? = some (.cells #[.int .u8 k0, .int .i64 co, .int .i64 b0, .int .i64 p, .bool rf] 63 (0, 0))) := qh HBE.out
    generalize wE.drew = w4 at hHeld HL4 HO4 HB4 ⊢
    have HTK := qh (own_take HT.out HO4.out n HWN.out)
    rw [HER.out] at HTK
    refine hh.tl 0 ⟨some 55, Op.move (.tmp 0), _, _, _, _⟩ ?v37 rfl ?hy37 ?_
    case hy37 => ((intro w0 hSw; go_simp); try (with_reducible rfl))
    try simp only [lay]
    refine hh.tl 1 ⟨some 56, Op.nilCheck (.tmp 55), _, _, _, _⟩ ?v38 rfl ?hy38 ?_
    case hy38 => ((intro w0 hSw; go_simp); try (with_reducible rfl))
    try simp only [lay]
    refine hh.tl 2 ⟨some 57, Op.fieldAddr 61 (.tmp 56) 0, _, _, _, _⟩ ?v39 rfl ?hy39 ?_
    case hy39 => ((intro w0 hSw; go_simp); try (with_reducible rfl))
    try simp only [lay]
    refine hh.tl 3 ⟨some 58, Op.load 22 (.tmp 57), _, _, _, _⟩ ?v40 rfl ?hy40 ?_
    case hy40 => ((intro w0 hSw; have hs1 := hSw.1; go_simp); try (with_reducible rfl))
    try simp only [lay]
    refine hh.tl 4 ⟨some 59, Op.load t' (.tmp 6), _, _, _, _⟩ ?v41 rfl ?hy41 ?_
    case hy41 => ((intro w0 hSw; have hs1 := HLD.out BN n w0 (tt.range_of hSw.2.1); go_simp); try (with_reducible rfl))
    try simp only [lay]
    refine rdo (i := 5) (o := ⟨some 60, Op.call { callee := Callee.value (.func 16), args := #[(.tmp 58), (.tmp 59)], argTypes := #[22, 31] }, _, _, _, _⟩) rfl (fun K hK => ?_)
    go_simp
    (with_reducible refine HTK.out.mono ?_); rintro e w7 ⟨F2, v, rfl, ho, hS, hD, hf⟩; have HL7 := qh (HL4.out.did hD); have HO7 := qh ho; have HS7 := qh hS; have HB7 : Hid (w7.heap[BN]? = some (.cells (na n) 31 (0, 0)) ∧ w7.heap[BA]? = some (.cells #[.int .u8 k0, .int .i64 co, .int .i64 b0, .int .i64 p, .bool rf] 63 (0, 0))) := qh ⟨hD.heap HB4.out.1 HNB.out.1, hD.heap HB4.out.2 HNB.out.2⟩; have HF7 : Hid (∀ k, v.ownBlock = some k → some k ≠ Value.ownBlock (.slice ad3 n3 cap3)) := qh (fun k hk e => by have := (hf k hk).1; have := HL4.out.sl.lt k e.symm; omega); have HSN := qh (sends_any HO7.out HL7.out v (take c H n).2.1 HS7.out HF7.out rf HKY.out (fun a b => by have := HC.out a b; omega) (by rw [HNN.out]; have := HWL.out; omega) HTL.out); obtain ⟨adv, capv, hv⟩ := hS.form; obtain ⟨lo, hlo⟩ : ∃ m, m = (take c H n).2.1.length := ⟨_, rfl⟩; rw [← hlo] at hv; clear hlo; subst hv; clear ho hS hD hf
    refine hK.out _ _ ⟨cr HL7.out.blk 0 rfl, HB7.out⟩ (fun hHeld => ?_)
    clear hK K
    try simp only [lay]
    refine hh.tl 6 ⟨some 54, Op.move (.tmp 60), _, _, _, _⟩ ?v42 rfl ?hy42 ?_
    case hy42 => ((intro w0 hSw; go_simp); try (with_reducible rfl))
    try simp only [lay]
    refine hh.tl 7 ⟨some 61, Op.extract (.tmp 54) 0, _, _, _, _⟩ ?v43 rfl ?hy43 ?_
    case hy43 => ((intro w0 hSw; go_simp); try (with_reducible rfl))
    try simp only [lay]
    refine hh.tl 8 ⟨some 62, Op.extract (.tmp 54) 1, _, _, _, _⟩ ?v44 rfl ?hy44 ?_
    case hy44 => ((intro w0 hSw; go_simp); try (with_reducible rfl))
    try simp only [lay]
    refine hh.tl 9 ⟨some 7, Op.assign (.tmp 61), _, _, _, _⟩ ?v45 rfl ?hy45 ?_
    case hy45 => ((intro w0 hSw; go_simp); try (with_reducible rfl))
    try simp only [lay]
    refine hh.tl 10 ⟨some 8, Op.assign (.tmp 62), _, _, _, _⟩ ?v46 rfl ?hy46 ?_
    case hy46 => ((intro w0 hSw; go_simp); try (with_reducible rfl))
    try simp only [lay]
    refine wpAnyH_done (by kernel_rfl) ?_ _
    clear hHeld
    have hc8 : w7.cell? ⟨BA, 4, none⟩ = some (.bool rf) := cr HB7.out.2 4 rfl
    go_wp2_with (go_at_call 24; ((with_reducible refine HSN.out.mono ?_); rintro e w9 ⟨⟨u9, rfl⟩, v9, ho9, hl9, hm9⟩; have HO9 := qh ho9; have HL9 := qh hl9; clear ho9 hl9 hm9 hc8))
    go_ret
    refine ⟨rfl, F2, _, v9, _, (take c H n).2.1, HO9.out, HL9.out, ?_, HP2.out, ?_, HTL.out⟩
    · have e : (fun x b => D x b - (C x b + came (take c H n).2.1 x b)) = (fun x b => D x b - C x b - came (take c H n).2.1 x b) := by funext x b; omega
      rw [e]; exact HI2.out
    · rw [List.length_append, HNN.out]
      have h1 := ways_len rf (take c H n).2.1
      have h2 := HTL.out
      have h3 := HQ.out
      omega
  · skip
    go_simp
    refine hK.out _ _ HHQ.out (fun hHeld => ?_)
    clear hK K
    try simp only [lay]
    refine hh.tl 14 ⟨some 50, Op.slice 42 (.tmp 47) (some (.tmp 49)) none none, _, _, _, _⟩ ?v47 rfl ?hy47 ?_
    case hy47 => ((intro w0 hSw; go_simp); try (with_reducible rfl))
    try simp only [lay]
    refine rdo (i := 4) (o := ⟨some 40, Op.load 42 (.tmp 39), _, _, _, _⟩) rfl (fun K hK => ?_)
    go_simp
    refine hK.out _ _ HHQ.out (fun hHeld => ?_)
    clear hK K
    try simp only [lay]
    refine hh.tl 7 ⟨some 43, Op.slice 42 (.tmp 40) none (some (.tmp 41)) (some (.tmp 42)), _, _, _, _⟩ ?v48 rfl ?hy48 ?_
    case hy48 => ((intro w0 hSw; go_simp); try (with_reducible rfl))
    try simp only [lay]
    refine rdo (i := 15) (o := ⟨some 51, Op.call { callee := Callee.builtin Builtin.append, args := #[(.tmp 43), (.tmp 50)], argTypes := #[42, 42] }, _, _, _, _⟩) rfl (fun K hK => ?_)
    refine tt.step_append_sl rfl (Operand.tmp 43) (Operand.tmp 50) 42 42 rfl 31 24 i0 (.agg (na zn)) 112 Tryd.underlying42 hi hz0 hz1 hz2 tt.zn_cells (.slice (some ⟨g, off, none⟩) kk kk) kk ((flat nt way).take (kk * 24)) rfl (HHD.out _ HGQ.out) _ _ (HSS.out _ HGQ.out) (by have := HWL.out; unfold maxLen; omega) (by have := HWL.out; omega) ?_
    intro v3 w3 hsl3 hgr3 hnx3
    obtain ⟨ad3, cap3, hv3⟩ := hsl3.form
    obtain ⟨n3, hn3⟩ : ∃ m, m = kk + (q - (kk + 1)) := ⟨_, rfl⟩
    rw [← hn3] at hv3
    subst hv3
    have hsl4 : NSl w3 (.slice ad3 n3 cap3) (way.eraseIdx kk) := by
      have h9 := hsl3
      rw [HE.out, ← HNN.out] at h9
      exact h9
    obtain ⟨⟨hc6, hf6⟩, hL3, hM3⟩ := HL.out.put HO.out.old.size (fun i hi => HO.out.at'.own_lt hi) HGQ.out hsl4 hgr3 hnx3
    have HB3 : Hid (w3.heap[BN]? = some (.cells (na n) 31 (0, 0)) ∧ w3.heap[BA]? = some (.cells #[.int .u8 k0, .int .i64 co, .int .i64 b0, .int .i64 p, .bool rf] 63 (0, 0))) := qh ⟨(hgr3.block _ (lt_of HHQ.out.1) (fun e => by have := HL.out.sl.lt _ e.symm; have := HNL.out; omega)).trans HHQ.out.1, (hgr3.block _ (lt_of HHQ.out.2) (fun e => by have := HL.out.sl.lt _ e.symm; have := HBL.out; omega)).trans HHQ.out.2⟩
    have HL3 := qh hL3
    have HM3 := qh hM3
    clear hsl3 hgr3 hnx3 hL3 hM3 hsl4 hn3
    refine hK.out _ _ HB3.out (fun hHeld => ?_)
    clear hK K
    try simp only [lay]
    refine hh.tl 16 ⟨some 52, Op.nilCheck (.tmp 36), _, _, _, _⟩ ?v49 rfl ?hy49 ?_
    case hy49 => ((intro w0 hSw; go_simp); try (with_reducible rfl))
    try simp only [lay]
    refine hh.tl 17 ⟨some 53, Op.fieldAddr 61 (.tmp 52) 1, _, _, _, _⟩ ?v50 rfl ?hy50 ?_
    case hy50 => ((intro w0 hSw; go_simp); try (with_reducible rfl))
    try simp only [lay]
    refine rdo (i := 18) (o := ⟨none, Op.store 42 (.tmp 53) (.tmp 51), _, _, _, _⟩) rfl (fun K hK => ?_)
    go_simp
    obtain ⟨wE, hwE⟩ : ∃ x, w3.setCell ⟨fb, 1, none⟩ (.slice ad3 n3 cap3) = x := ⟨_, rfl⟩
    have HBE : Hid (wE.heap[BN]? = some (.cells (na n) 31 (0, 0)) ∧ wE.heap[BA]? = some (.cells #[.int .u8 k0, .int .i64 co, .int .i64 b0, .int .i64 p, .bool rf] 63 (0, 0))) := qh (by rw [← hwE]; exact ⟨(Below.heap_setCell _ _ _ _ (fun e => by have := HL.out.lt; have := HNL.out; dsimp only at e; omega)).trans HB3.out.1, (Below.heap_setCell _ _ _ _ (fun e => by have := HL.out.lt; have := HBL.out; dsimp only at e; omega)).trans HB3.out.2⟩)
    rw [hwE] at HL3 HM3 ⊢
    refine hK.out _ _ HBE.out (fun hHeld => ?_)
    clear hK K
    try simp only [lay]
    refine wpAnyH_done (by kernel_rfl) ?_ _
    clear hHeld hc4 hc6 hf6 hwE
    have HO3 := qh (HO.out.mv HL.out HM3.out)
    go_wp2_with fail
    obtain ⟨t', mm', HTT, hagg, hsize, hld⟩ := tt.named
    have HLD := qh hld
    clear hld
    rw [HTT.out]
    have HNB : Hid (¬ F.own BN ∧ ¬ F.own BA) := qh ⟨fun e => by have := HO.out.at'.own_lt e; have := HNL.out; omega, HNA.out⟩
    refine wp_region_held_drew (S := fun w' => w'.cell? ⟨fb, 0, none⟩ = some (.pointer (some ⟨h, 0, none⟩)) ∧ w'.heap[BN]? = some (.cells (na n) 31 (0, 0)) ∧ w'.heap[BA]? = some (.cells #[.int .u8 k0, .int .i64 co, .int .i64 b0, .int .i64 p, .bool rf] 63 (0, 0))) (by kernel_rfl) ⟨cr HL3.out.blk 0 rfl, HBE.out.1, HBE.out.2⟩ (fun hHeld => ?_)
    have HL4 := qh (HL3.out.grown (tt.grown_drew (grown_refl _ none)))
    have HO4 := qh (HO3.out.grown (tt.grown_drew (grown_refl _ none)))
    have HB4 : Hid (wE.drew.heap[BN]? = some (.cells (na n) 31 (0, 0)) ∧ wE.drew.heap[BA]? = some (.cells #[.int .u8 k0, .int .i64 co, .int .i64 b0, .int .i64 p, .bool rf] 63 (0, 0))) := qh HBE.out
    generalize wE.drew = w4 at hHeld HL4 HO4 HB4 ⊢
    have HTK := qh (own_take HT.out HO4.out n HWN.out)
    rw [HER.out] at HTK
    refine hh.tl 0 ⟨some 55, Op.move (.tmp 0), _, _, _, _⟩ ?v51 rfl ?hy51 ?_
    case hy51 => ((intro w0 hSw; go_simp); try (with_reducible rfl))
    try simp only [lay]
    refine hh.tl 1 ⟨some 56, Op.nilCheck (.tmp 55), _, _, _, _⟩ ?v52 rfl ?hy52 ?_
    case hy52 => ((intro w0 hSw; go_simp); try (with_reducible rfl))
    try simp only [lay]
    refine hh.tl 2 ⟨some 57, Op.fieldAddr 61 (.tmp 56) 0, _, _, _, _⟩ ?v53 rfl ?hy53 ?_
    case hy53 => ((intro w0 hSw; go_simp); try (with_reducible rfl))
    try simp only [lay]
    refine hh.tl 3 ⟨some 58, Op.load 22 (.tmp 57), _, _, _, _⟩ ?v54 rfl ?hy54 ?_
    case hy54 => ((intro w0 hSw; have hs1 := hSw.1; go_simp); try (with_reducible rfl))
    try simp only [lay]
    refine hh.tl 4 ⟨some 59, Op.load t' (.tmp 6), _, _, _, _⟩ ?v55 rfl ?hy55 ?_
    case hy55 => ((intro w0 hSw; have hs1 := HLD.out BN n w0 (tt.range_of hSw.2.1); go_simp); try (with_reducible rfl))
    try simp only [lay]
    refine rdo (i := 5) (o := ⟨some 60, Op.call { callee := Callee.value (.func 16), args := #[(.tmp 58), (.tmp 59)], argTypes := #[22, 31] }, _, _, _, _⟩) rfl (fun K hK => ?_)
    go_simp
    (with_reducible refine HTK.out.mono ?_); rintro e w7 ⟨F2, v, rfl, ho, hS, hD, hf⟩; have HL7 := qh (HL4.out.did hD); have HO7 := qh ho; have HS7 := qh hS; have HB7 : Hid (w7.heap[BN]? = some (.cells (na n) 31 (0, 0)) ∧ w7.heap[BA]? = some (.cells #[.int .u8 k0, .int .i64 co, .int .i64 b0, .int .i64 p, .bool rf] 63 (0, 0))) := qh ⟨hD.heap HB4.out.1 HNB.out.1, hD.heap HB4.out.2 HNB.out.2⟩; have HF7 : Hid (∀ k, v.ownBlock = some k → some k ≠ Value.ownBlock (.slice ad3 n3 cap3)) := qh (fun k hk e => by have := (hf k hk).1; have := HL4.out.sl.lt k e.symm; omega); have HSN := qh (sends_any HO7.out HL7.out v (take c H n).2.1 HS7.out HF7.out rf HKY.out (fun a b => by have := HC.out a b; omega) (by rw [HNN.out]; have := HWL.out; omega) HTL.out); obtain ⟨adv, capv, hv⟩ := hS.form; obtain ⟨lo, hlo⟩ : ∃ m, m = (take c H n).2.1.length := ⟨_, rfl⟩; rw [← hlo] at hv; clear hlo; subst hv; clear ho hS hD hf
    refine hK.out _ _ ⟨cr HL7.out.blk 0 rfl, HB7.out⟩ (fun hHeld => ?_)
    clear hK K
    try simp only [lay]
    refine hh.tl 6 ⟨some 54, Op.move (.tmp 60), _, _, _, _⟩ ?v56 rfl ?hy56 ?_
    case hy56 => ((intro w0 hSw; go_simp); try (with_reducible rfl))
    try simp only [lay]
    refine hh.tl 7 ⟨some 61, Op.extract (.tmp 54) 0, _, _, _, _⟩ ?v57 rfl ?hy57 ?_
    case hy57 => ((intro w0 hSw; go_simp); try (with_reducible rfl))
    try simp only [lay]
    refine hh.tl 8 ⟨some 62, Op.extract (.tmp 54) 1, _, _, _, _⟩ ?v58 rfl ?hy58 ?_
    case hy58 => ((intro w0 hSw; go_simp); try (with_reducible rfl))
    try simp only [lay]
    refine hh.tl 9 ⟨some 7, Op.assign (.tmp 61), _, _, _, _⟩ ?v59 rfl ?hy59 ?_
    case hy59 => ((intro w0 hSw; go_simp); try (with_reducible rfl))
    try simp only [lay]
    refine hh.tl 10 ⟨some 8, Op.assign (.tmp 62), _, _, _, _⟩ ?v60 rfl ?hy60 ?_
    case hy60 => ((intro w0 hSw; go_simp); try (with_reducible rfl))
    try simp only [lay]
    refine wpAnyH_done (by kernel_rfl) ?_ _
    clear hHeld
    have hc8 : w7.cell? ⟨BA, 4, none⟩ = some (.bool rf) := cr HB7.out.2 4 rfl
    go_wp2_with (go_at_call 24; ((with_reducible refine HSN.out.mono ?_); rintro e w9 ⟨⟨u9, rfl⟩, v9, ho9, hl9, hm9⟩; have HO9 := qh ho9; have HL9 := qh hl9; clear ho9 hl9 hm9 hc8))
    go_ret
    refine ⟨rfl, F2, _, v9, _, (take c H n).2.1, HO9.out, HL9.out, ?_, HP2.out, ?_, HTL.out⟩
    · have e : (fun x b => D x b - (C x b + came (take c H n).2.1 x b)) = (fun x b => D x b - C x b - came (take c H n).2.1 x b) := by funext x b; omega
      rw [e]; exact HI2.out
    · rw [List.length_append, HNN.out]
      have h1 := ways_len rf (take c H n).2.1
      have h2 := HTL.out
      have h3 := HQ.out
      omega
end Go.Proofs.YtenhdijbcdkfbaaDoor.hh
