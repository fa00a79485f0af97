/-
  The law MaskLists returns true: the walk. No condition beyond that the library's table lies in its variable.
-/
import Derived.Test.YtaoeebleapmgkaaDoorC5
import Derived.RangeFuncBound
namespace Go.Proofs.YtaoeebleapmgkaaDoor.mm
open Go Go.RowKit Go.Shelf
set_option linter.unusedVariables false
attribute [local go_sem] Oper.semAt_some

/-- The numbers of a set as ints. -/
def nums (m : Nat) : List Int := (ones m).map fun x : Nat => (x : Int)
theorem nums_len (m : Nat) : (nums m).length = pop m 32 := by unfold nums; rw [List.length_map, ones_len]

theorem rlist_at (m : Nat) (w : World) (hm : m < 4294967296) : Calls Tryd.prog 20 #[.int .u32 (m : Int)] w fun e w' => ∃ ad cap, e = .returned (.slice ad (pop m 32) cap) ∧ At w' ad (nums m) ∧ (∀ g, ad = some g → g.block < w'.heap.size) ∧ Below w.heap.size w w' :=
  (rlist_any m w hm).mono fun e w' ⟨v, he, hown, hb⟩ => by
    obtain ⟨ad, cap, rfl, hat, hbl⟩ := own_at hown
    exact ⟨ad, cap, by rw [he, ones_len], hat, hbl, hb⟩
theorem list_at (m : Nat) (w : World) (hm : m < 4294967296) (hT : Tab w) : Calls Tryd.prog 22 #[.int .u32 (m : Int)] w fun e w' => ∃ ad cap, e = .returned (.slice ad (pop m 32) cap) ∧ At w' ad (nums m) ∧ (∀ g, ad = some g → g.block < w'.heap.size) ∧ Below w.heap.size w w' :=
  (list_any m w hm hT).mono fun e w' ⟨v, he, hown, hb⟩ => by
    obtain ⟨ad, cap, rfl, hat, hbl⟩ := own_at hown
    exact ⟨ad, cap, by rw [he, ones_len], hat, hbl, hb⟩

/-- The first number of a set that has one. -/
theorem first_at (m : Nat) (w : World) (ad : Option Addr) (hm : m < 4294967296) (h0 : 0 < m) (h : At w ad (nums m)) : ∃ b off, ad = some ⟨b, off, none⟩ ∧ w.cell? ⟨b, off, none⟩ = some (.int .i64 (least m)) := by
  obtain ⟨b, off, h1, h2⟩ := h 0 (least m) (by
    unfold nums least
    rw [(ones_cons m h0 hm).1, if_neg (by omega)]; rfl)
  exact ⟨b, off, h1, h2⟩

set_option maxRecDepth 1000000 in
set_option maxHeartbeats 4000000 in
theorem lists_some (m : Nat) (early : Int) (w : World) (hm : m < 4294967296) (hm0 : 0 < m) (h1 : -9223372036854775808 ≤ early) (h2 : early ≤ 9223372036854775807) (hT : Tab w) :
    Calls Tryd.prog 6 #[.int .u32 (m : Int), .int .i64 early] w fun e w' => e = .returned (.bool true) ∧ Below w.heap.size w w' := by
  refine (callsIn_wide (n := 5)).1 ?_
  have HT := Lib.hid hT
  have h0w := hT.lt
  have HM := Lib.hid hm
  have HLEN := Lib.hid (ones_len m)
  have HNL := Lib.hid (nums_len m).symm
  have hle := pop_le m 32
  have hpos : 0 < pop m 32 := by rw [← ones_len, (ones_cons m hm0 hm).1]; simp
  have HFA := Lib.hid (fun W ad => first_at m W ad hm hm0)
  have HC := Lib.hid (fun W => count_any m W hm)
  have HR := Lib.hid (fun W => rlist_at m W hm)
  have HL := Lib.hid (fun W => list_at m W hm)
  have HLE := Lib.hid (fun W => least_any m W hm)
  obtain ⟨c, hc⟩ : ∃ c, c = pop m 32 := ⟨_, rfl⟩
  rw [← hc] at hle hpos HC HR HL HNL HLEN
  obtain ⟨lm, hlm⟩ : ∃ lm, lm = least m := ⟨_, rfl⟩
  rw [← hlm] at HFA HLE
  clear hT hm hm0 hc hlm
  refine callsIn_of_wp_marks Tryd.func6 rfl trivial ?_ rfl
  simp only [Tryd.ntmps6, List.size_toArray, List.length_cons, List.length_nil, Nat.reduceAdd, Nat.reduceSub, Array.replicate_succ, Array.replicate_zero, List.push_toArray, List.append_toArray, List.nil_append, List.cons_append]
  gi_wp2_with (first
    | (refine ⟨trivial, ?_⟩; gi_at_call 10; refine (callsIn_wide.2 (works_any _ (HT.out.below ((Below.refl _ _).alloc (Nat.le_refl _) _) h0w))).mono ?_; rintro e w1 ⟨rfl, hb1⟩; rw [World.size_alloc] at hb1; have HT1 := Lib.hid (HT.out.below (((Below.refl _ _).alloc (Nat.le_refl _) _).trans (hb1.mono (by omega))) h0w))
    | (refine ⟨trivial, ?_⟩; gi_at_call 20; refine (callsIn_wide.2 (HR.out _)).mono ?_; rintro e w2 ⟨ad2, cap2, rfl, hat2, hbl2, hb2⟩; have HAT2 := Lib.hid hat2; have HBL2 := Lib.hid hbl2; have HT2 := Lib.hid (HT1.out.below hb2 HT1.out.lt); clear hat2 hbl2)
    | (refine ⟨trivial, ?_⟩; gi_at_call 12; refine (callsIn_wide.2 (HC.out _)).mono ?_; rintro e w' ⟨rfl, nq, rfl⟩)
    | (refine ⟨trivial, ?_⟩; gi_at_call 22; refine (callsIn_wide.2 (HL.out _ (HT2.out.drewN _))).mono ?_; rintro e w3 ⟨ad3, cap3, rfl, hat3, hbl3, hb3⟩; have HAT3 := Lib.hid hat3; have HAT23 := Lib.hid ((HAT2.out.drewN nq).below hb3 HBL2.out); have HT3 := Lib.hid ((HT2.out.drewN nq).below hb3 HT2.out.lt); clear hat3 hbl3)
    | (refine ⟨trivial, ?_⟩; gi_at_call 21; refine (callsIn_wide.2 (equal_same (nums m) _ _ c _ _ _ HNL.out (by omega) HAT3.out HAT23.out)).mono ?_; rintro e w4 ⟨rfl, ne, hw4⟩; obtain ⟨b0, off0, rfl, hc0'⟩ := HFA.out _ _ HAT23.out; have hc0 : w4.cell? ⟨b0, off0, none⟩ = some (.int .i64 lm) := hw4 ▸ hc0'; have HW4 := Lib.hid hw4; clear hw4 hc0')
    | (refine ⟨trivial, ?_⟩; gi_at_call 23; refine (all_in _ _ _).mono ?_; rintro e w' ⟨rfl, rfl⟩))
  have hs1 : w.heap.size + 1 ≤ w1.heap.size := by have := hb1.size; simpa using this
  have hB14 : Below (w.heap.size + 1) w1 w4 := by
    rw [HW4.out]
    exact below_drewN ((below_drewN (hb2.mono hs1) nq).trans (hb3.mono (by have := hb2.size; simp; omega))) ne
  have hB4 : Below w.heap.size w w4 := (((Below.refl _ _).alloc (Nat.le_refl _) _).trans (hb1.mono (by omega))).trans (hB14.mono (by omega))
  have hE4 : w4.cell? ⟨w.heap.size, 0, none⟩ = some (.int .i64 early) := ((hB14.cell (p := ⟨w.heap.size, 0, none⟩) (by simp)).trans (hb1.cell (p := ⟨w.heap.size, 0, none⟩) (by simp))).trans (by simp)
  have hs4 := hB4.size
  have hs4' : w.heap.size + 1 ≤ w4.heap.size := by have := hB14.size; omega
  clear hb1 hb2 hb3 hB14 hc0
  have bS := Boxed.new w4 3 (.int .i64 0)
  have bN := Boxed.new (w4.alloc (.cells #[.int .i64 0] 3)) 23 (.int .u32 (m : Int))
  rw [World.size_alloc] at bN
  have hB0 : Below w.heap.size w ((w4.alloc (.cells #[.int .i64 0] 3)).alloc (.cells #[.int .u32 (m : Int)] 23)) := (hB4.alloc hs4 _).alloc (by simp; omega) _
  refine wpIn_rangeFunc_ownF rfl (by omega) (gf := 29) (lb := #[.pointer (some ⟨w4.heap.size + 1, 0, none⟩)]) rfl trivial (enters_of Tryd.func29 (by kernel_rfl) rfl)
    (all_stops (5 - 1) (by omega) (w4.heap.size + 1) w.heap.size m HM.out _ (by simp) h0w bN.cell (HT.out.below hB0 h0w)) belowK_t (belowK_b (by simp; omega)) (Below.refl _ _) (fun _ => rfl)
    (fun pre W => ((W.cell? ⟨w4.heap.size, 0, none⟩ = some (.int .i64 (pre.length : Int)) ∧ W.frozen? ⟨w4.heap.size, 0, none⟩ = false) ∧ W.cell? ⟨w.heap.size, 0, none⟩ = some (.int .i64 early) ∧ (pre.length = 0 ∨ (pre.length : Int) ≤ early)) ∧ Below w.heap.size w W)
    (fun c' pre W => ((c' = .exit 0 ∧ W.cell? ⟨w4.heap.size, 0, none⟩ = some (.int .i64 (pre.length : Int))) ∧ W.cell? ⟨w.heap.size, 0, none⟩ = some (.int .i64 early) ∧ 0 < pre.length ∧ early < (pre.length : Int) ∧ (pre.length = 1 ∨ (pre.length : Int) - 1 ≤ early)) ∧ Below w.heap.size w W)
    (OwnFrom.and (Own.from (fun s A B row hs hg hr => ⟨⟨cell_kept hs.1.1 hg hr, (frozen_kept hs.1.1 hg hr).trans hs.1.2⟩, cell_kept hs.2.1 hg hr, hs.2.2⟩) _) (ownFrom_below (Nat.le_refl _) (by simp; omega)))
    (fun c' => OwnFrom.and (Own.from (fun s A B row hs hg hr => ⟨⟨hs.1.1, cell_kept hs.1.2 hg hr⟩, cell_kept hs.2.1 hg hr, hs.2.2⟩) _) (ownFrom_below (Nat.le_refl _) (by simp; omega)))
    ⟨⟨⟨(bS.alloc _).cell, (bS.alloc _).frozen⟩, ((Below.refl w4.heap.size w4).alloc (Nat.le_refl _) _ |>.alloc (by simp) _ |>.cell (p := ⟨w.heap.size, 0, none⟩) (by simp; omega)).trans hE4, .inl rfl⟩, hB0⟩
    (fun x => { tmps := #[.int .u32 (m : Int), .int .i64 early, undef, .pointer (some ⟨w.heap.size, 0, none⟩), .bool false, .slice (some ⟨b0, off0, none⟩) c cap2, .int .i64 lm, .pointer (some ⟨w4.heap.size, 0, none⟩), .bool true, .bool false, .int .u32 (m : Int), .slice (some ⟨b0, off0, none⟩) c cap2, .int .u32 (m : Int), .int .i64 (c : Int), .slice (some ⟨b0, off0, none⟩) c cap2, .int .i64 (c : Int), .bool false, .bool false, .int .u32 (m : Int), .slice ad3 c cap3, .slice (some ⟨b0, off0, none⟩) c cap2, .bool true, .bool false, .bool false, .slice (some ⟨b0, off0, none⟩) c cap2, .int .i64 (c : Int), .bool true, .slice (some ⟨b0, off0, none⟩) c cap2, .pointer (some ⟨b0, off0, none⟩), .int .i64 lm, .int .u32 (m : Int), .func (.func 29) #[] #[.pointer (some ⟨w4.heap.size + 1, 0, none⟩)], .int .i64 (x : Int), undef, undef, undef, undef, undef, undef, undef, undef, undef, undef, undef, undef, undef, undef, undef, undef, undef, undef, undef, undef, undef, undef, undef], defers := [] }) ?assign ?body ?done ?stop
  case assign =>
    intro l x W K hK
    gi_wp2
    exact hK
  case body =>
    rintro l pre x W ⟨⟨⟨hc, hf⟩, he, hor⟩, hB⟩ hlt
    have hl32 : pre.length < 32 := by have := HLEN.out; omega
    have hlen : ((pre ++ [x]).length : Int) = (pre.length : Int) + 1 := by simp
    have HLX := Lib.hid hlen
    have he' : (W.setCell ⟨w4.heap.size, 0, none⟩ (.int .i64 ((pre.length : Int) + 1))).cell? ⟨w.heap.size, 0, none⟩ = some (.int .i64 early) := by
      rw [World.cell?_of_block (w := W) (Below.heap_setCell _ _ _ _ (by simp; omega))]; exact he
    have hc' : (W.setCell ⟨w4.heap.size, 0, none⟩ (.int .i64 ((pre.length : Int) + 1))).cell? ⟨w4.heap.size, 0, none⟩ = some (.int .i64 ((pre.length : Int) + 1)) := World.cell?_setCell_same' _ _ _ (by rw [hc]; rfl)
    have hB' := hB.setCell (p := ⟨w4.heap.size, 0, none⟩) hs4 (.int .i64 ((pre.length : Int) + 1))
    have HOR := Lib.hid hor
    have HF := Lib.hid hf
    clear hlen hor
    by_cases hlt2 : early < (pre.length : Int) + 1
    · gi_wp2
      exact ⟨KeepsOthers.setCell _ _ _, ⟨⟨rfl, by rw [HLX.out]; exact hc'⟩, he', by simp, by rw [HLX.out]; exact hlt2, by
        rcases HOR.out with h | h
        · exact .inl (by simp [h])
        · exact .inr (by rw [HLX.out]; omega)⟩, hB'⟩
    · gi_wp2
      exact ⟨KeepsOthers.setCell _ _ _, (Below.refl w.heap.size W).setCell (p := ⟨w4.heap.size, 0, none⟩) hs4 _, ⟨⟨by rw [HLX.out]; exact hc', by rw [World.frozen?_setCell]; exact HF.out⟩, he', .inr (by rw [HLX.out]; exact hlt2)⟩, hB'⟩
  case done =>
    rintro D ys W hD rfl ⟨⟨⟨hc, _⟩, he, hor⟩, hB⟩ hK
    rw [HLEN.out] at hc
    have hor' : (c : Int) ≤ early := by have := HLEN.out; omega
    have HTW := Lib.hid (HT.out.below hB h0w)
    clear hor
    by_cases h99 : 99 < early
    · have f1 : min early 99 = 99 := by omega
      have f2 : min 100 (c : Int) = (c : Int) := by omega
      have f3 : max (100 : Int) 1 = 100 := by decide
      gi_wp2_with (first
        | (refine ⟨trivial, ?_⟩; gi_at_call 11; refine (callsIn_wide.2 (HLE.out _ HTW.out)).mono ?_; rintro e w' ⟨rfl, rfl⟩)
        | (refine ⟨trivial, ?_⟩; gi_at_call 10; refine (callsIn_wide.2 (works_any _ HTW.out)).mono ?_; rintro e w5 ⟨rfl, hb5⟩))
      have hK' : w5.heap[D]? = some (.deferred (some [])) := (hb5.block D (Array.getElem?_eq_some_iff.1 hK).1).trans hK
      refine ⟨by simp, .inl ⟨_, _, rfl, run_takeDeferred hK', ?_⟩⟩
      exact ⟨_, results_tmp rfl _ _ _, rfl, (hB.trans (hb5.mono hB.size)).trans (belowK_b (w := w) (Nat.le_refl _) w5 D _ _ (by simp at hD; omega) hK' rfl rfl)⟩
    · have f1 : min early 99 = early := by omega
      have f2 : max (early + 1) 1 = early + 1 := by omega
      have f3 : min (early + 1) (c : Int) = (c : Int) := by omega
      gi_wp2_with (first
        | (refine ⟨trivial, ?_⟩; gi_at_call 11; refine (callsIn_wide.2 (HLE.out _ HTW.out)).mono ?_; rintro e w' ⟨rfl, rfl⟩)
        | (refine ⟨trivial, ?_⟩; gi_at_call 10; refine (callsIn_wide.2 (works_any _ HTW.out)).mono ?_; rintro e w5 ⟨rfl, hb5⟩))
      have hK' : w5.heap[D]? = some (.deferred (some [])) := (hb5.block D (Array.getElem?_eq_some_iff.1 hK).1).trans hK
      refine ⟨by simp, .inl ⟨_, _, rfl, run_takeDeferred hK', ?_⟩⟩
      exact ⟨_, results_tmp rfl _ _ _, rfl, (hB.trans (hb5.mono hB.size)).trans (belowK_b (w := w) (Nat.le_refl _) w5 D _ _ (by simp at hD; omega) hK' rfl rfl)⟩
  case stop =>
    rintro D c' pre W hD hpre ⟨⟨⟨rfl, hc⟩, he, hp0, hlt, hor⟩, hB⟩ hK
    have hpl : pre.length ≤ c := by have := HLEN.out; have := hpre.length_le; omega
    have HTW := Lib.hid (HT.out.below hB h0w)
    obtain ⟨q, hq⟩ : ∃ q, q = pre.length := ⟨_, rfl⟩
    rw [← hq] at hc hp0 hlt hor hpl
    clear hpre hq
    by_cases hq1 : q = 1
    · subst hq1
      have g1 : min early 99 = early := by omega
      have g2 : max (early + 1) 1 = 1 := by omega
      have g3 : min 1 (c : Int) = 1 := by omega
      clear hor hlt
      gi_wp2_with (first
        | (refine ⟨trivial, ?_⟩; gi_at_call 11; refine (callsIn_wide.2 (HLE.out _ HTW.out)).mono ?_; rintro e w' ⟨rfl, rfl⟩)
        | (refine ⟨trivial, ?_⟩; gi_at_call 10; refine (callsIn_wide.2 (works_any _ HTW.out)).mono ?_; rintro e w5 ⟨rfl, hb5⟩))
      have hK' : w5.heap[D]? = some (.deferred (some [])) := (hb5.block D (Array.getElem?_eq_some_iff.1 hK).1).trans hK
      refine ⟨by simp, .inl ⟨_, _, rfl, run_takeDeferred hK', ?_⟩⟩
      exact ⟨_, results_tmp rfl _ _ _, rfl, (hB.trans (hb5.mono hB.size)).trans (belowK_b (w := w) (Nat.le_refl _) w5 D _ _ (by simp at hD; omega) hK' rfl rfl)⟩
    · have e1 : early = (q : Int) - 1 := by omega
      subst e1
      have g1 : min ((q : Int) - 1) 99 = (q : Int) - 1 := by omega
      have g2 : max (q : Int) 1 = (q : Int) := by omega
      have g3 : min (q : Int) (c : Int) = (q : Int) := by omega
      have g4 : max ((q : Int) - 1 + 1) 1 = (q : Int) := by omega
      clear hor hlt
      gi_wp2_with (first
        | (refine ⟨trivial, ?_⟩; gi_at_call 11; refine (callsIn_wide.2 (HLE.out _ HTW.out)).mono ?_; rintro e w' ⟨rfl, rfl⟩)
        | (refine ⟨trivial, ?_⟩; gi_at_call 10; refine (callsIn_wide.2 (works_any _ HTW.out)).mono ?_; rintro e w5 ⟨rfl, hb5⟩))
      have hK' : w5.heap[D]? = some (.deferred (some [])) := (hb5.block D (Array.getElem?_eq_some_iff.1 hK).1).trans hK
      refine ⟨by simp, .inl ⟨_, _, rfl, run_takeDeferred hK', ?_⟩⟩
      exact ⟨_, results_tmp rfl _ _ _, rfl, (hB.trans (hb5.mono hB.size)).trans (belowK_b (w := w) (Nat.le_refl _) w5 D _ _ (by simp at hD; omega) hK' rfl rfl)⟩
set_option maxRecDepth 1000000 in
set_option maxHeartbeats 4000000 in
theorem lists_none (early : Int) (w : World) (h1 : -9223372036854775808 ≤ early) (h2 : early ≤ 9223372036854775807) (hT : Tab w) :
    Calls Tryd.prog 6 #[.int .u32 0, .int .i64 early] w fun e w' => e = .returned (.bool true) ∧ Below w.heap.size w w' := by
  refine (callsIn_wide (n := 5)).1 ?_
  have HT := Lib.hid hT
  have h0w := hT.lt
  have HLEN := Lib.hid (show (ones 0).length = 0 by rw [ones_zero]; rfl)
  have hle := h1
  have HC := Lib.hid (fun W => (count_any 0 W (by omega)))
  have HR := Lib.hid (fun W => rlist_at 0 W (by omega))
  have HL := Lib.hid (fun W => list_at 0 W (by omega))
  have HLE := Lib.hid (fun W => least_any 0 W (by omega))
  have hp0 : pop 0 32 = 0 := by decide
  rw [hp0] at HC HR HL
  rw [show least 0 = -1 by decide] at HLE
  clear hT hp0
  refine callsIn_of_wp_marks Tryd.func6 rfl trivial ?_ rfl
  simp only [Tryd.ntmps6, List.size_toArray, List.length_cons, List.length_nil, Nat.reduceAdd, Nat.reduceSub, Array.replicate_succ, Array.replicate_zero, List.push_toArray, List.append_toArray, List.nil_append, List.cons_append]
  gi_wp2_with (first
    | (refine ⟨trivial, ?_⟩; gi_at_call 10; refine (callsIn_wide.2 (works_any _ (HT.out.below ((Below.refl _ _).alloc (Nat.le_refl _) _) h0w))).mono ?_; rintro e w1 ⟨rfl, hb1⟩; rw [World.size_alloc] at hb1; have HT1 := Lib.hid (HT.out.below (((Below.refl _ _).alloc (Nat.le_refl _) _).trans (hb1.mono (by omega))) h0w))
    | (refine ⟨trivial, ?_⟩; gi_at_call 20; refine (callsIn_wide.2 (HR.out _)).mono ?_; rintro e w2 ⟨ad2, cap2, rfl, hat2, hbl2, hb2⟩; have HAT2 := Lib.hid hat2; have HBL2 := Lib.hid hbl2; have HT2 := Lib.hid (HT1.out.below hb2 HT1.out.lt); clear hat2 hbl2)
    | (refine ⟨trivial, ?_⟩; gi_at_call 12; refine (callsIn_wide.2 (HC.out _)).mono ?_; rintro e w' ⟨rfl, nq, rfl⟩)
    | (refine ⟨trivial, ?_⟩; gi_at_call 22; refine (callsIn_wide.2 (HL.out _ (HT2.out.drewN _))).mono ?_; rintro e w3 ⟨ad3, cap3, rfl, hat3, hbl3, hb3⟩; have HAT3 := Lib.hid hat3; have HAT23 := Lib.hid ((HAT2.out.drewN nq).below hb3 HBL2.out); have HT3 := Lib.hid ((HT2.out.drewN nq).below hb3 HT2.out.lt); clear hat3 hbl3)
    | (refine ⟨trivial, ?_⟩; gi_at_call 21; refine (callsIn_wide.2 (equal_same (nums 0) _ _ 0 _ _ _ rfl (by omega) HAT3.out HAT23.out)).mono ?_; rintro e w4 ⟨rfl, ne, hw4⟩; have HW4 := Lib.hid hw4; clear hw4)
    | (refine ⟨trivial, ?_⟩; gi_at_call 23; refine (all_in _ _ _).mono ?_; rintro e w' ⟨rfl, rfl⟩))
  have hs1 : w.heap.size + 1 ≤ w1.heap.size := by have := hb1.size; simpa using this
  have hB14 : Below (w.heap.size + 1) w1 w4 := by
    rw [HW4.out]
    exact below_drewN ((below_drewN (hb2.mono hs1) nq).trans (hb3.mono (by have := hb2.size; simp; omega))) ne
  have hB4 : Below w.heap.size w w4 := (((Below.refl _ _).alloc (Nat.le_refl _) _).trans (hb1.mono (by omega))).trans (hB14.mono (by omega))
  have hE4 : w4.cell? ⟨w.heap.size, 0, none⟩ = some (.int .i64 early) := ((hB14.cell (p := ⟨w.heap.size, 0, none⟩) (by simp)).trans (hb1.cell (p := ⟨w.heap.size, 0, none⟩) (by simp))).trans (by simp)
  have hs4 := hB4.size
  have hs4' : w.heap.size + 1 ≤ w4.heap.size := by have := hB14.size; omega
  clear hb1 hb2 hb3 hB14
  have bS := Boxed.new w4 3 (.int .i64 0)
  have bN := Boxed.new (w4.alloc (.cells #[.int .i64 0] 3)) 23 (.int .u32 0)
  rw [World.size_alloc] at bN
  have hB0 : Below w.heap.size w ((w4.alloc (.cells #[.int .i64 0] 3)).alloc (.cells #[.int .u32 0] 23)) := (hB4.alloc hs4 _).alloc (by simp; omega) _
  refine wpIn_rangeFunc_ownF rfl (by omega) (gf := 29) (lb := #[.pointer (some ⟨w4.heap.size + 1, 0, none⟩)]) rfl trivial (enters_of Tryd.func29 (by kernel_rfl) rfl)
    (all_stops (5 - 1) (by omega) (w4.heap.size + 1) w.heap.size 0 (by omega) _ (by simp) h0w bN.cell (HT.out.below hB0 h0w)) belowK_t (belowK_b (by simp; omega)) (Below.refl _ _) (fun _ => rfl)
    (fun pre W => ((W.cell? ⟨w4.heap.size, 0, none⟩ = some (.int .i64 (pre.length : Int)) ∧ W.frozen? ⟨w4.heap.size, 0, none⟩ = false) ∧ W.cell? ⟨w.heap.size, 0, none⟩ = some (.int .i64 early) ∧ (pre.length = 0 ∨ (pre.length : Int) ≤ early)) ∧ Below w.heap.size w W)
    (fun c' pre W => ((c' = .exit 0 ∧ W.cell? ⟨w4.heap.size, 0, none⟩ = some (.int .i64 (pre.length : Int))) ∧ W.cell? ⟨w.heap.size, 0, none⟩ = some (.int .i64 early) ∧ 0 < pre.length ∧ early < (pre.length : Int) ∧ (pre.length = 1 ∨ (pre.length : Int) - 1 ≤ early)) ∧ Below w.heap.size w W)
    (OwnFrom.and (Own.from (fun s A B row hs hg hr => ⟨⟨cell_kept hs.1.1 hg hr, (frozen_kept hs.1.1 hg hr).trans hs.1.2⟩, cell_kept hs.2.1 hg hr, hs.2.2⟩) _) (ownFrom_below (Nat.le_refl _) (by simp; omega)))
    (fun c' => OwnFrom.and (Own.from (fun s A B row hs hg hr => ⟨⟨hs.1.1, cell_kept hs.1.2 hg hr⟩, cell_kept hs.2.1 hg hr, hs.2.2⟩) _) (ownFrom_below (Nat.le_refl _) (by simp; omega)))
    ⟨⟨⟨(bS.alloc _).cell, (bS.alloc _).frozen⟩, ((Below.refl w4.heap.size w4).alloc (Nat.le_refl _) _ |>.alloc (by simp) _ |>.cell (p := ⟨w.heap.size, 0, none⟩) (by simp; omega)).trans hE4, .inl rfl⟩, hB0⟩
    (fun x => { tmps := #[.int .u32 0, .int .i64 early, undef, .pointer (some ⟨w.heap.size, 0, none⟩), .bool false, .slice ad2 0 cap2, .int .i64 (-1), .pointer (some ⟨w4.heap.size, 0, none⟩), .bool true, .bool false, .int .u32 0, .slice ad2 0 cap2, .int .u32 0, .int .i64 0, .slice ad2 0 cap2, .int .i64 0, .bool false, .bool false, .int .u32 0, .slice ad3 0 cap3, .slice ad2 0 cap2, .bool true, .bool false, .bool false, .slice ad2 0 cap2, .int .i64 0, .bool false, undef, undef, undef, .int .u32 0, .func (.func 29) #[] #[.pointer (some ⟨w4.heap.size + 1, 0, none⟩)], .int .i64 (x : Int), undef, undef, undef, undef, undef, undef, undef, undef, undef, undef, undef, undef, undef, undef, undef, undef, undef, undef, undef, undef, undef, undef, undef], defers := [] }) ?assign ?body ?done ?stop
  case assign =>
    intro l x W K hK
    gi_wp2
    exact hK
  case body =>
    rintro l pre x W ⟨⟨⟨hc, hf⟩, he, hor⟩, hB⟩ hlt
    exact absurd hlt (by rw [HLEN.out]; omega)
  case done =>
    rintro D ys W hD rfl ⟨⟨⟨hc, _⟩, he, hor⟩, hB⟩ hK
    rw [HLEN.out] at hc
    have HTW := Lib.hid (HT.out.below hB h0w)
    have f1 : min (max (min early 99 + 1) 1) 0 = 0 := by omega
    clear hor
    gi_wp2_with (first
      | (refine ⟨trivial, ?_⟩; gi_at_call 11; refine (callsIn_wide.2 (HLE.out _ HTW.out)).mono ?_; rintro e w' ⟨rfl, rfl⟩)
      | (refine ⟨trivial, ?_⟩; gi_at_call 10; refine (callsIn_wide.2 (works_any _ HTW.out)).mono ?_; rintro e w5 ⟨rfl, hb5⟩))
    have hK' : w5.heap[D]? = some (.deferred (some [])) := (hb5.block D (Array.getElem?_eq_some_iff.1 hK).1).trans hK
    refine ⟨by simp, .inl ⟨_, _, rfl, run_takeDeferred hK', ?_⟩⟩
    exact ⟨_, results_tmp rfl _ _ _, rfl, (hB.trans (hb5.mono hB.size)).trans (belowK_b (w := w) (Nat.le_refl _) w5 D _ _ (by simp at hD; omega) hK' rfl rfl)⟩
  case stop =>
    rintro D c' pre W hD hpre ⟨⟨⟨rfl, hc⟩, he, hp0, hlt, hor⟩, hB⟩ hK
    exact absurd hpre.length_le (by rw [HLEN.out]; omega)

theorem lists_true (m : Nat) (early : Int) (w : World) (hm : m < 4294967296) (h1 : -9223372036854775808 ≤ early) (h2 : early ≤ 9223372036854775807) (hT : Tab w) :
    Calls Tryd.prog 6 #[.int .u32 (m : Int), .int .i64 early] w fun e w' => e = .returned (.bool true) ∧ Below w.heap.size w w' := by
  by_cases h0 : m = 0
  · subst h0; exact lists_none early w h1 h2 hT
  · exact lists_some m early w hm (by omega) h1 h2 hT
end Go.Proofs.YtaoeebleapmgkaaDoor.mm
