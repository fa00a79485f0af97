/-
  The law EntryKnows returns true: the walk. Condition: the library's table lies in its variable.
-/
import Derived.Test.YtplebmafdfciaaaDoorEnN
namespace Go.Proofs.YtplebmafdfciaaaDoor.en
open Go Go.ChangeShapes Go.WideShapes Go.ChangeAt Go.RowKit
open Go.Proofs.YtplebmafdfciaaaDoor.mm (wi wo ha pop wi_lt wo_lt wi_in wi_out wo_in wo_out ha_in in_or Tab wout_any)
set_option linter.unusedVariables false

/-- a without what is in b. -/
def dn (a b : Nat) : Nat := a &&& (4294967295 - b)
theorem dn_eq (a b : Nat) (ha : a < 4294967296) (hb : b < 4294967296) : bits .andNot .u32 (a : Int) (b : Int) = ((dn a b : Nat) : Int) := u32_andNot_nat a b ha hb
theorem dn_lt (a b : Nat) (ha : a < 4294967296) : dn a b < 4294967296 := Nat.lt_of_le_of_lt Nat.and_le_left ha
theorem dn_bit (a b i : Nat) (ha : a < 4294967296) (hb : b < 4294967296) : (dn a b).testBit i = (a.testBit i && !b.testBit i) := by
  have hp : b < 2 ^ 32 := hb
  unfold dn
  rw [Nat.testBit_and, show 4294967295 - b = 2 ^ 32 - (b + 1) by omega, Nat.testBit_two_pow_sub_succ hp]
  cases h : a.testBit i
  · rfl
  · have := bit_lt ha h
    rw [decide_eq_true this]; rfl
theorem no_bits {m : Nat} (h : ∀ i, m.testBit i = false) : m = 0 := Nat.eq_of_testBit_eq fun i => by rw [h i, Nat.zero_testBit]
theorem dn_self (a : Nat) (ha : a < 4294967296) : dn a a = 0 := no_bits fun i => by rw [dn_bit a a i ha ha]; simp

theorem back_known (o : Int) (s : Nat) (k x : Int) (st : Bool) (h : ask ⟨o, s⟩ k x = true) : ∃ p q t, back ⟨o, s⟩ x st = (⟨p, q⟩, t, 0) ∧ q < 4294967296 ∧ wo (dn (wi s o) (wi q p)) x = 0 ∧ (st = true → dn (wi s o) (wi q p) = 0) := by
  obtain ⟨hm, hx, hk⟩ := ask_parts h
  obtain ⟨h1, h2, h3, h4⟩ := may_parts hm
  have hK := wi_lt s o (by omega)
  have same : wo (dn (wi s o) (wi s o)) x = 0 := by
    rw [dn_self _ hK]
    exact no_bits fun i => by rw [wo_bit 0 x (by decide)]; simp
  unfold back
  rw [if_pos (by rw [hm]; simp [hx.1, hx.2])]
  by_cases ho : o = x
  · rw [if_pos (show (⟨o, s⟩ : En).o = x from ho)]
    cases st
    · refine ⟨-1, 0, true, rfl, by decide, ?_, fun h => by cases h⟩
      obtain rfl : s = 0 := h4 (by omega)
      subst ho
      have h0 : wi 0 (-1) = 0 := wi_out 0 (-1) (by omega)
      rw [h0]
      refine no_bits fun i => ?_
      rw [wo_bit _ o (dn_lt _ _ hK), dn_bit _ _ i hK (by decide), wi_bit 0 o (by omega)]
      by_cases e : o = (i : Int)
      · simp [e]
      · simp [e]
    · exact ⟨o, s, true, rfl, by omega, same, fun _ => dn_self _ hK⟩
  · rw [if_neg (show ¬ (⟨o, s⟩ : En).o = x from ho)]
    exact ⟨o, s, false, rfl, by omega, same, fun _ => dn_self _ hK⟩
theorem gets_known (o : Int) (s : Nat) (k x : Int) (h : ask ⟨o, s⟩ k x = true) : ∃ p q t, gets ⟨o, s⟩ k x = (⟨p, q⟩, t, 0) ∧ q < 4294967296 ∧ dn (wo (dn (wi s o) (wi q p)) x) (asks o s k x) = 0 ∧ (k ≠ 2 → wo (dn (wi s o) (wi q p)) x = 0) := by
  obtain ⟨hm, hx, hk⟩ := ask_parts h
  obtain ⟨h1, h2, h3, h4⟩ := may_parts hm
  have hs : s < 4294967296 := by omega
  have hK := wi_lt s o hs
  have hN := wi_lt 0 x (by decide)
  have hAL := asks_lt o s k x hs
  have zero : ∀ q p, wo (dn (wi s o) (wi q p)) x = 0 → dn (wo (dn (wi s o) (wi q p)) x) (asks o s k x) = 0 := fun q p h => by
    rw [h]; exact no_bits fun i => by rw [dn_bit 0 _ i (by decide) hAL]; simp
  have lost : ∀ i, (wo (dn (wi s o) (wi 0 x)) x).testBit i = ((wi s o).testBit i && !decide ((i : Int) = x)) := fun i => by
    rw [wo_bit _ x (dn_lt _ _ hK), dn_bit _ _ i hK hN, wi_bit 0 x (by omega)]
    by_cases e : (i : Int) = x
    · simp [e]
    · have e' : ¬ x = (i : Int) := fun h => e h.symm
      simp [e, e']
  unfold gets
  rw [if_pos h]
  by_cases hk2 : k = 2
  · rw [if_pos hk2]
    refine ⟨x, 0, 3, rfl, by decide, ?_, fun hn => absurd hk2 hn⟩
    have ha : asks o s k x = wo (wi s o) x := if_neg (by omega)
    rw [ha]
    refine no_bits fun i => ?_
    rw [dn_bit _ _ i (wo_lt _ x (dn_lt _ _ hK)) (wo_lt _ x hK), lost i, wo_bit _ x hK]
    simp
  · rw [if_neg hk2]
    by_cases hp : pop (wi (wi s o) x) 32 = 1
    · rw [if_pos (show pop (wi (wi (⟨o, s⟩ : En).s (⟨o, s⟩ : En).o) x) 32 = 1 from hp)]
      have hz := (only_one (wi s o) x hK hx.1 (by omega)).1 hp
      have hl : wo (dn (wi s o) (wi 0 x)) x = 0 := no_bits fun i => by
        rw [lost i, ← wo_bit _ x hK, hz, Nat.zero_testBit]
      exact ⟨x, 0, 2, rfl, by decide, zero 0 x hl, fun _ => hl⟩
    · rw [if_neg (show ¬ pop (wi (wi (⟨o, s⟩ : En).s (⟨o, s⟩ : En).o) x) 32 = 1 from hp)]
      have hl : wo (dn (wi s o) (wi (wi (wi s o) x) (-1))) x = 0 := no_bits fun i => by
        rw [wi_out _ (-1) (by omega), wo_bit _ x (dn_lt _ _ hK), dn_bit _ _ i hK (wi_lt _ x hK), wi_bit _ x (by omega)]
        cases (wi s o).testBit i <;> simp
      exact ⟨-1, wi (wi s o) x, 1, rfl, wi_lt _ x hK, zero _ _ hl, fun _ => hl⟩
theorem asks_known (o : Int) (s : Nat) (k x : Int) (hs : s < 4294967296) : dn (asks o s k x) (wi s o) = 0 := no_bits fun i => by
  rw [dn_bit _ _ i (asks_lt o s k x hs) (wi_lt s o hs)]
  unfold asks
  split
  · simp
  · rw [wo_bit _ x (wi_lt s o hs)]
    cases (wi s o).testBit i <;> simp

theorem next4 {w w' : World} {b c : Nat} {x y z u : Value} (h : (w.cell? ⟨b, 0, none⟩ = some x ∧ w.cell? ⟨b, 1, none⟩ = some y) ∧ w.cell? ⟨c, 0, none⟩ = some z ∧ w.cell? ⟨c, 1, none⟩ = some u) (hg : w.grownBy w' none) : (w'.cell? ⟨b, 0, none⟩ = some x ∧ w'.cell? ⟨b, 1, none⟩ = some y) ∧ w'.cell? ⟨c, 0, none⟩ = some z ∧ w'.cell? ⟨c, 1, none⟩ = some u :=
  ⟨next2 h.1 hg, next2 h.2 hg⟩

set_option maxRecDepth 1000000 in
set_option maxHeartbeats 4000000 in
theorem knows_bad (o : Int) (s : Nat) (k x : Int) (st : Bool) (w : World) (hs : s < 4294967296) (hT : Tab w) (hask : ask ⟨o, s⟩ k x = false) : Calls Tryd.prog 6 #[.agg #[.int .i64 o, .int .u32 (s : Int)], .int .u8 k, .int .i64 x, .bool st] w fun e w' => e = .returned (.bool true) ∧ w.grownBy w' none := by
  have HE0 : Hid ((w.alloc (.cells #[.int .i64 o, .int .u32 (s : Int)] 25)).heap[w.heap.size]? = some (.cells #[.int .i64 o, .int .u32 (s : Int)] 25 (0, 0))) := Lib.hid (heap_alloc_new _ _)
  have HG0 : Hid (w.grownBy (w.alloc (.cells #[.int .i64 o, .int .u32 (s : Int)] 25)) none) := Lib.hid (grown_alloc (grown_refl _ _) _)
  have HT0 := Lib.hid (tab_grown hT HG0.out)
  have HA : Hid (∀ w, Tab w → _) := Lib.hid fun w h => asked_any o s k x w hs h
  have HP : Hid (∀ w, _) := Lib.hid fun w => gets_any o s k x w hs
  have HW : Hid (∀ w, _) := Lib.hid fun w => works_any w
  have h1 : asked ⟨o, s⟩ k x = (0, 0, 2) := by unfold asked; rw [hask]; rfl
  have h2 : gets ⟨o, s⟩ k x = (⟨0, 0⟩, 0, 2) := by unfold gets; rw [hask]; rfl
  rw [h1] at HA
  rw [h2] at HP
  unfold told at HA
  unfold got at HP
  clear hT hs hask h1 h2
  go_enter Tryd.func6, Tryd.ntmps6
  go_wp2_with (first
    | ((with_reducible refine load_en _ _ _ _ _ w.heap.size ?_ HE0.out ?_); (rfl))
    | (go_at_call 7; ((with_reducible refine (HA.out _ HT0.out).mono ?_); rintro e w5 ⟨rfl, hg5⟩; have HE5 := Lib.hid (row_grown HE0.out hg5); have HG5 := Lib.hid (grown_trans HG0.out hg5); clear hg5))
    | ((with_reducible refine load_en _ _ _ _ _ w.heap.size ?_ HE5.out ?_); (rfl))
    | (go_at_call 9; ((with_reducible refine (HP.out _).mono ?_); rintro e w6 ⟨rfl, hg6⟩; have HE6 : Hid ((w6.alloc (.cells #[.int .i64 0, .int .u32 0] 25)).heap[w.heap.size]? = _) := Lib.hid (row_grown HE5.out (grown_alloc hg6 _)); have HP6 : Hid ((w6.alloc (.cells #[.int .i64 0, .int .u32 0] 25)).heap[w6.heap.size]? = some (.cells #[.int .i64 0, .int .u32 0] 25 (0, 0))) := Lib.hid (heap_alloc_new _ _); have HG6 : Hid (w.grownBy (w6.alloc (.cells #[.int .i64 0, .int .u32 0] 25)) none) := Lib.hid (grown_alloc (grown_trans HG5.out hg6) _); clear hg6))
    | ((with_reducible refine store_enN 0 0 _ _ _ _ ?_ ?_ ?_ ?_); (rfl); (rfl); (rfl))
    | (go_at_call 8; ((with_reducible refine (HW.out _).mono ?_); rintro e w11 ⟨rfl, hg11⟩; have HG11 := Lib.hid (grown_trans HG6.out hg11); clear hg11)))
  go_ret
  exact ⟨rfl, HG11.out⟩

set_option maxRecDepth 1000000 in
set_option maxHeartbeats 4000000 in
theorem knows_0 (o : Int) (s : Nat) (k x : Int) (st : Bool) (w : World) (hs : s < 4294967296) (hT : Tab w) (hask : ask ⟨o, s⟩ k x = true) (p : Int) (q : Nat) (t : Int) (h2 : gets ⟨o, s⟩ k x = (⟨p, q⟩, t, 0)) (hq : q < 4294967296) (p' : Int) (q' : Nat) (t' : Bool) (h3 : back ⟨o, s⟩ x st = (⟨p', q'⟩, t', 0)) (hq' : q' < 4294967296)
    (hg : wo (dn (wi s o) (wi q' p')) x = 0) (hst : st = true → dn (wi s o) (wi q' p') = 0) (by' : Int) (hby : (if k = 1 then 4 else 5) = by') (h0 : wo (dn (wi s o) (wi q p)) x = 0) : Calls Tryd.prog 6 #[.agg #[.int .i64 o, .int .u32 (s : Int)], .int .u8 k, .int .i64 x, .bool st] w fun e w' => e = .returned (.bool true) ∧ w.grownBy w' none := by
  have HE0 : Hid ((w.alloc (.cells #[.int .i64 o, .int .u32 (s : Int)] 25)).heap[w.heap.size]? = some (.cells #[.int .i64 o, .int .u32 (s : Int)] 25 (0, 0))) := Lib.hid (heap_alloc_new _ _)
  have HG0 : Hid (w.grownBy (w.alloc (.cells #[.int .i64 o, .int .u32 (s : Int)] 25)) none) := Lib.hid (grown_alloc (grown_refl _ _) _)
  have HT0 := Lib.hid (tab_grown hT HG0.out)
  have HA : Hid (∀ w, Tab w → _) := Lib.hid fun w h => asked_any o s k x w hs h
  have HP : Hid (∀ w, _) := Lib.hid fun w => gets_any o s k x w hs
  have HW : Hid (∀ w, _) := Lib.hid fun w => works_any w
  have h1 : asked ⟨o, s⟩ k x = (asks o s k x, by', 0) := by unfold asked; rw [hask, ← hby]; rfl
  have HB : Hid (∀ w, _) := Lib.hid fun w => back_any o s x st w hs
  rw [h1] at HA
  rw [h2] at HP
  rw [h3] at HB
  unfold told at HA
  unfold got at HP
  unfold gone at HB
  have hKl := wi_lt s o hs
  have hNl := wi_lt q p hq
  have hRl := wi_lt q' p' hq'
  have hAl := asks_lt o s k x hs
  have HK : Hid (∀ w, _) := Lib.hid fun w => lknown_any o s w hs
  have HN : Hid (∀ w, _) := Lib.hid fun w => lknown_any p q w hq
  have HR : Hid (∀ w, _) := Lib.hid fun w => lknown_any p' q' w hq'
  have HO : Hid (∀ w, _) := Lib.hid fun w => wout_any (dn (wi s o) (wi q p)) x w (dn_lt _ _ hKl)
  have HO2 : Hid (∀ w, _) := Lib.hid fun w => wout_any (dn (wi s o) (wi q' p')) x w (dn_lt _ _ hKl)
  rw [hg] at HO2
  obtain ⟨G, hG⟩ : ∃ G : Int, G = ((dn (wi s o) (wi q' p') : Nat) : Int) := ⟨_, rfl⟩
  rw [← hG] at HO2
  have hG0 : st = true → (G == 0) = true := fun h => by rw [hG, hst h]; rfl
  have hcast : ((0 : Nat) : Int) = 0 := rfl
  rw [hcast] at HO2
  have e1 := dn_eq (wi s o) (wi q p) hKl hNl
  have e2 := dn_eq (wi s o) (wi q' p') hKl hRl
  rw [← hG] at e2
  have e3 := dn_eq (asks o s k x) (wi s o) hAl hKl
  rw [asks_known o s k x hs, hcast] at e3
  rw [h0, hcast] at HO
  have e4 : bits .andNot .u32 0 (asks o s k x : Nat) = 0 := by
    have := dn_eq 0 (asks o s k x) (by decide) hAl
    rw [show dn 0 (asks o s k x) = 0 from no_bits fun i => by rw [dn_bit 0 _ i (by decide) hAl]; simp] at this
    exact this
  generalize asks o s k x = a at *
  generalize wi s o = m at *
  generalize wi q p = n at *
  generalize wi q' p' = r at *
  generalize dn m n = d at *
  clear h0
  clear hT hs hask h1 h2 h3 hg hst hG hcast hq hq' hKl hNl hRl hAl hby
  go_enter Tryd.func6, Tryd.ntmps6
  go_wp2_with (first
    | ((with_reducible refine load_en _ _ _ _ _ w.heap.size ?_ HE0.out ?_); (rfl))
    | (go_at_call 7; ((with_reducible refine (HA.out _ HT0.out).mono ?_); rintro e w5 ⟨rfl, hg5⟩; have HE5 := Lib.hid (row_grown HE0.out hg5); have HG5 := Lib.hid (grown_trans HG0.out hg5); clear hg5))
    | ((with_reducible refine load_en _ _ _ _ _ w.heap.size ?_ HE5.out ?_); (rfl))
    | (go_at_call 9; ((with_reducible refine (HP.out _).mono ?_); rintro e w6 ⟨rfl, hg6⟩; have HE6 : Hid ((w6.alloc (.cells #[.int .i64 p, .int .u32 (q : Int)] 25)).heap[w.heap.size]? = _) := Lib.hid (row_grown HE5.out (grown_alloc hg6 _)); have HP6 : Hid ((w6.alloc (.cells #[.int .i64 p, .int .u32 (q : Int)] 25)).heap[w6.heap.size]? = some (.cells #[.int .i64 p, .int .u32 (q : Int)] 25 (0, 0))) := Lib.hid (heap_alloc_new _ _); have HG6 : Hid (w.grownBy (w6.alloc (.cells #[.int .i64 p, .int .u32 (q : Int)] 25)) none) := Lib.hid (grown_alloc (grown_trans HG5.out hg6) _); clear hg6))
    | ((with_reducible refine store_enN p (q : Int) _ _ _ _ ?_ ?_ ?_ ?_); (rfl); (rfl); (rfl)))
  go_region_held3 (fun w' => (w'.cell? ⟨w.heap.size, 0, none⟩ = some (.int .i64 o) ∧ w'.cell? ⟨w.heap.size, 1, none⟩ = some (.int .u32 (s : Int))) ∧ w'.cell? ⟨w6.heap.size, 0, none⟩ = some (.int .i64 p) ∧ w'.cell? ⟨w6.heap.size, 1, none⟩ = some (.int .u32 (q : Int)))
    (first | exact ⟨cells2 (row_grown HE6.out (grown_drew (grown_refl _ _))), cells2 (row_grown HP6.out (grown_drew (grown_refl _ _)))⟩ | exact next4 (by assumption) (by assumption) | assumption)
    (first
      | (go_at_call 17; ((with_reducible refine (HK.out _).mono ?_); rintro e w7 ⟨rfl, hg7⟩))
      | (go_at_call 17; ((with_reducible refine (HN.out _).mono ?_); rintro e w8 ⟨rfl, hg8⟩))
      | (go_at_call 20; ((with_reducible refine (HO.out _).mono ?_); rintro e w9 ⟨rfl, rfl⟩)))
  have HG8 := Lib.hid (grown_trans (grown_trans (grown_drew HG6.out) hg7) hg8)
  have HE8 := Lib.hid (row_grown HE6.out (grown_trans (grown_trans (grown_drew (grown_refl _ _)) hg7) hg8))
  obtain ⟨c80, c81⟩ := cells2 HE8.out
  clear hg7 hg8
  go_wp2_with (first
    | (go_at_call 17; ((with_reducible refine (HK.out _).mono ?_); rintro e w9 ⟨rfl, hg9⟩; have HE9 := Lib.hid (row_grown HE8.out hg9); have HG9 := Lib.hid (grown_trans HG8.out hg9); clear hg9))
    | ((with_reducible refine load_en _ _ _ _ _ w.heap.size ?_ HE9.out ?_); (rfl))
    | (go_at_call 10; ((with_reducible refine (HB.out _).mono ?_); rintro e w10 ⟨rfl, hg10⟩; have HE10 : Hid ((w10.alloc (.cells #[.int .i64 p', .int .u32 (q' : Int)] 25)).heap[w.heap.size]? = _) := Lib.hid (row_grown HE9.out (grown_alloc hg10 _)); have HP10 : Hid ((w10.alloc (.cells #[.int .i64 p', .int .u32 (q' : Int)] 25)).heap[w10.heap.size]? = some (.cells #[.int .i64 p', .int .u32 (q' : Int)] 25 (0, 0))) := Lib.hid (heap_alloc_new _ _); have HG10 : Hid (w.grownBy (w10.alloc (.cells #[.int .i64 p', .int .u32 (q' : Int)] 25)) none) := Lib.hid (grown_alloc (grown_trans HG9.out hg10) _); clear hg10))
    | ((with_reducible refine store_enN p' (q' : Int) _ _ _ _ ?_ ?_ ?_ ?_); (rfl); (rfl); (rfl)))
  go_region_held3 (fun w' => (w'.cell? ⟨w.heap.size, 0, none⟩ = some (.int .i64 o) ∧ w'.cell? ⟨w.heap.size, 1, none⟩ = some (.int .u32 (s : Int))) ∧ w'.cell? ⟨w10.heap.size, 0, none⟩ = some (.int .i64 p') ∧ w'.cell? ⟨w10.heap.size, 1, none⟩ = some (.int .u32 (q' : Int)))
    (first | exact ⟨cells2 (row_grown HE10.out (grown_drew (grown_refl _ _))), cells2 (row_grown HP10.out (grown_drew (grown_refl _ _)))⟩ | exact next4 (by assumption) (by assumption) | assumption)
    (first
      | (go_at_call 17; ((with_reducible refine (HK.out _).mono ?_); rintro e w11 ⟨rfl, hg11⟩))
      | (go_at_call 17; ((with_reducible refine (HR.out _).mono ?_); rintro e w12 ⟨rfl, hg12⟩)))
  have HG12 := Lib.hid (grown_trans (grown_trans (grown_drew HG10.out) hg11) hg12)
  clear hg11 hg12
  cases st
  · clear hG0
    go_wp2_with (first
      | (go_at_call 20; ((with_reducible refine (HO2.out _).mono ?_); rintro e w13 ⟨rfl, rfl⟩))
      | (go_at_call 8; ((with_reducible refine (HW.out _).mono ?_); rintro e w14 ⟨rfl, hg14⟩; have HG14 := Lib.hid (grown_trans HG12.out hg14); clear hg14)))
    go_ret
    exact ⟨rfl, HG14.out⟩
  · have eG := hG0 rfl
    clear hG0
    go_wp2_with (first
      | (go_at_call 20; ((with_reducible refine (HO2.out _).mono ?_); rintro e w13 ⟨rfl, rfl⟩))
      | (go_at_call 8; ((with_reducible refine (HW.out _).mono ?_); rintro e w14 ⟨rfl, hg14⟩; have HG14 := Lib.hid (grown_trans HG12.out hg14); clear hg14)))
    go_ret
    exact ⟨rfl, HG14.out⟩

set_option maxRecDepth 1000000 in
set_option maxHeartbeats 4000000 in
theorem knows_2 (o : Int) (s : Nat) (k x : Int) (st : Bool) (w : World) (hs : s < 4294967296) (hT : Tab w) (hask : ask ⟨o, s⟩ k x = true) (p : Int) (q : Nat) (t : Int) (h2 : gets ⟨o, s⟩ k x = (⟨p, q⟩, t, 0)) (hq : q < 4294967296) (p' : Int) (q' : Nat) (t' : Bool) (h3 : back ⟨o, s⟩ x st = (⟨p', q'⟩, t', 0)) (hq' : q' < 4294967296)
    (hg : wo (dn (wi s o) (wi q' p')) x = 0) (hst : st = true → dn (wi s o) (wi q' p') = 0) (by' : Int) (hby : (if k = 1 then 4 else 5) = by') (h0 : ¬ wo (dn (wi s o) (wi q p)) x = 0) (h5 : by' = 5) (hl : dn (wo (dn (wi s o) (wi q p)) x) (asks o s k x) = 0) : Calls Tryd.prog 6 #[.agg #[.int .i64 o, .int .u32 (s : Int)], .int .u8 k, .int .i64 x, .bool st] w fun e w' => e = .returned (.bool true) ∧ w.grownBy w' none := by
  have HE0 : Hid ((w.alloc (.cells #[.int .i64 o, .int .u32 (s : Int)] 25)).heap[w.heap.size]? = some (.cells #[.int .i64 o, .int .u32 (s : Int)] 25 (0, 0))) := Lib.hid (heap_alloc_new _ _)
  have HG0 : Hid (w.grownBy (w.alloc (.cells #[.int .i64 o, .int .u32 (s : Int)] 25)) none) := Lib.hid (grown_alloc (grown_refl _ _) _)
  have HT0 := Lib.hid (tab_grown hT HG0.out)
  have HA : Hid (∀ w, Tab w → _) := Lib.hid fun w h => asked_any o s k x w hs h
  have HP : Hid (∀ w, _) := Lib.hid fun w => gets_any o s k x w hs
  have HW : Hid (∀ w, _) := Lib.hid fun w => works_any w
  have h1 : asked ⟨o, s⟩ k x = (asks o s k x, by', 0) := by unfold asked; rw [hask, ← hby]; rfl
  have HB : Hid (∀ w, _) := Lib.hid fun w => back_any o s x st w hs
  rw [h1] at HA
  rw [h2] at HP
  rw [h3] at HB
  unfold told at HA
  unfold got at HP
  unfold gone at HB
  have hKl := wi_lt s o hs
  have hNl := wi_lt q p hq
  have hRl := wi_lt q' p' hq'
  have hAl := asks_lt o s k x hs
  have HK : Hid (∀ w, _) := Lib.hid fun w => lknown_any o s w hs
  have HN : Hid (∀ w, _) := Lib.hid fun w => lknown_any p q w hq
  have HR : Hid (∀ w, _) := Lib.hid fun w => lknown_any p' q' w hq'
  have HO : Hid (∀ w, _) := Lib.hid fun w => wout_any (dn (wi s o) (wi q p)) x w (dn_lt _ _ hKl)
  have HO2 : Hid (∀ w, _) := Lib.hid fun w => wout_any (dn (wi s o) (wi q' p')) x w (dn_lt _ _ hKl)
  rw [hg] at HO2
  obtain ⟨G, hG⟩ : ∃ G : Int, G = ((dn (wi s o) (wi q' p') : Nat) : Int) := ⟨_, rfl⟩
  rw [← hG] at HO2
  have hG0 : st = true → (G == 0) = true := fun h => by rw [hG, hst h]; rfl
  have hcast : ((0 : Nat) : Int) = 0 := rfl
  rw [hcast] at HO2
  have e1 := dn_eq (wi s o) (wi q p) hKl hNl
  have e2 := dn_eq (wi s o) (wi q' p') hKl hRl
  rw [← hG] at e2
  have e3 := dn_eq (asks o s k x) (wi s o) hAl hKl
  rw [asks_known o s k x hs, hcast] at e3
  have hLl := wo_lt (dn (wi s o) (wi q p)) x (dn_lt _ _ hKl)
  have e4 := dn_eq (wo (dn (wi s o) (wi q p)) x) (asks o s k x) hLl hAl
  rw [hl, hcast] at e4
  have eL : (((wo (dn (wi s o) (wi q p)) x : Nat) : Int) != 0) = true := by simp; omega
  generalize wo (dn (wi s o) (wi q p)) x = L at *
  subst h5
  generalize asks o s k x = a at *
  generalize wi s o = m at *
  generalize wi q p = n at *
  generalize wi q' p' = r at *
  generalize dn m n = d at *
  clear h0 hl hLl
  clear hT hs hask h1 h2 h3 hg hst hG hcast hq hq' hKl hNl hRl hAl hby
  go_enter Tryd.func6, Tryd.ntmps6
  go_wp2_with (first
    | ((with_reducible refine load_en _ _ _ _ _ w.heap.size ?_ HE0.out ?_); (rfl))
    | (go_at_call 7; ((with_reducible refine (HA.out _ HT0.out).mono ?_); rintro e w5 ⟨rfl, hg5⟩; have HE5 := Lib.hid (row_grown HE0.out hg5); have HG5 := Lib.hid (grown_trans HG0.out hg5); clear hg5))
    | ((with_reducible refine load_en _ _ _ _ _ w.heap.size ?_ HE5.out ?_); (rfl))
    | (go_at_call 9; ((with_reducible refine (HP.out _).mono ?_); rintro e w6 ⟨rfl, hg6⟩; have HE6 : Hid ((w6.alloc (.cells #[.int .i64 p, .int .u32 (q : Int)] 25)).heap[w.heap.size]? = _) := Lib.hid (row_grown HE5.out (grown_alloc hg6 _)); have HP6 : Hid ((w6.alloc (.cells #[.int .i64 p, .int .u32 (q : Int)] 25)).heap[w6.heap.size]? = some (.cells #[.int .i64 p, .int .u32 (q : Int)] 25 (0, 0))) := Lib.hid (heap_alloc_new _ _); have HG6 : Hid (w.grownBy (w6.alloc (.cells #[.int .i64 p, .int .u32 (q : Int)] 25)) none) := Lib.hid (grown_alloc (grown_trans HG5.out hg6) _); clear hg6))
    | ((with_reducible refine store_enN p (q : Int) _ _ _ _ ?_ ?_ ?_ ?_); (rfl); (rfl); (rfl)))
  go_region_held3 (fun w' => (w'.cell? ⟨w.heap.size, 0, none⟩ = some (.int .i64 o) ∧ w'.cell? ⟨w.heap.size, 1, none⟩ = some (.int .u32 (s : Int))) ∧ w'.cell? ⟨w6.heap.size, 0, none⟩ = some (.int .i64 p) ∧ w'.cell? ⟨w6.heap.size, 1, none⟩ = some (.int .u32 (q : Int)))
    (first | exact ⟨cells2 (row_grown HE6.out (grown_drew (grown_refl _ _))), cells2 (row_grown HP6.out (grown_drew (grown_refl _ _)))⟩ | exact next4 (by assumption) (by assumption) | assumption)
    (first
      | (go_at_call 17; ((with_reducible refine (HK.out _).mono ?_); rintro e w7 ⟨rfl, hg7⟩))
      | (go_at_call 17; ((with_reducible refine (HN.out _).mono ?_); rintro e w8 ⟨rfl, hg8⟩))
      | (go_at_call 20; ((with_reducible refine (HO.out _).mono ?_); rintro e w9 ⟨rfl, rfl⟩)))
  have HG8 := Lib.hid (grown_trans (grown_trans (grown_drew HG6.out) hg7) hg8)
  have HE8 := Lib.hid (row_grown HE6.out (grown_trans (grown_trans (grown_drew (grown_refl _ _)) hg7) hg8))
  obtain ⟨c80, c81⟩ := cells2 HE8.out
  clear hg7 hg8
  go_wp2_with (first
    | (go_at_call 17; ((with_reducible refine (HK.out _).mono ?_); rintro e w9 ⟨rfl, hg9⟩; have HE9 := Lib.hid (row_grown HE8.out hg9); have HG9 := Lib.hid (grown_trans HG8.out hg9); clear hg9))
    | ((with_reducible refine load_en _ _ _ _ _ w.heap.size ?_ HE9.out ?_); (rfl))
    | (go_at_call 10; ((with_reducible refine (HB.out _).mono ?_); rintro e w10 ⟨rfl, hg10⟩; have HE10 : Hid ((w10.alloc (.cells #[.int .i64 p', .int .u32 (q' : Int)] 25)).heap[w.heap.size]? = _) := Lib.hid (row_grown HE9.out (grown_alloc hg10 _)); have HP10 : Hid ((w10.alloc (.cells #[.int .i64 p', .int .u32 (q' : Int)] 25)).heap[w10.heap.size]? = some (.cells #[.int .i64 p', .int .u32 (q' : Int)] 25 (0, 0))) := Lib.hid (heap_alloc_new _ _); have HG10 : Hid (w.grownBy (w10.alloc (.cells #[.int .i64 p', .int .u32 (q' : Int)] 25)) none) := Lib.hid (grown_alloc (grown_trans HG9.out hg10) _); clear hg10))
    | ((with_reducible refine store_enN p' (q' : Int) _ _ _ _ ?_ ?_ ?_ ?_); (rfl); (rfl); (rfl)))
  go_region_held3 (fun w' => (w'.cell? ⟨w.heap.size, 0, none⟩ = some (.int .i64 o) ∧ w'.cell? ⟨w.heap.size, 1, none⟩ = some (.int .u32 (s : Int))) ∧ w'.cell? ⟨w10.heap.size, 0, none⟩ = some (.int .i64 p') ∧ w'.cell? ⟨w10.heap.size, 1, none⟩ = some (.int .u32 (q' : Int)))
    (first | exact ⟨cells2 (row_grown HE10.out (grown_drew (grown_refl _ _))), cells2 (row_grown HP10.out (grown_drew (grown_refl _ _)))⟩ | exact next4 (by assumption) (by assumption) | assumption)
    (first
      | (go_at_call 17; ((with_reducible refine (HK.out _).mono ?_); rintro e w11 ⟨rfl, hg11⟩))
      | (go_at_call 17; ((with_reducible refine (HR.out _).mono ?_); rintro e w12 ⟨rfl, hg12⟩)))
  have HG12 := Lib.hid (grown_trans (grown_trans (grown_drew HG10.out) hg11) hg12)
  clear hg11 hg12
  cases st
  · clear hG0
    go_wp2_with (first
      | (go_at_call 20; ((with_reducible refine (HO2.out _).mono ?_); rintro e w13 ⟨rfl, rfl⟩))
      | (go_at_call 8; ((with_reducible refine (HW.out _).mono ?_); rintro e w14 ⟨rfl, hg14⟩; have HG14 := Lib.hid (grown_trans HG12.out hg14); clear hg14)))
    go_ret
    exact ⟨rfl, HG14.out⟩
  · have eG := hG0 rfl
    clear hG0
    go_wp2_with (first
      | (go_at_call 20; ((with_reducible refine (HO2.out _).mono ?_); rintro e w13 ⟨rfl, rfl⟩))
      | (go_at_call 8; ((with_reducible refine (HW.out _).mono ?_); rintro e w14 ⟨rfl, hg14⟩; have HG14 := Lib.hid (grown_trans HG12.out hg14); clear hg14)))
    go_ret
    exact ⟨rfl, HG14.out⟩

theorem knows_true (o : Int) (s : Nat) (k x : Int) (st : Bool) (w : World) (hs : s < 4294967296) (hT : Tab w) : Calls Tryd.prog 6 #[.agg #[.int .i64 o, .int .u32 (s : Int)], .int .u8 k, .int .i64 x, .bool st] w fun e w' => e = .returned (.bool true) ∧ w.grownBy w' none := by
  cases hask : ask ⟨o, s⟩ k x
  · exact knows_bad o s k x st w hs hT hask
  · obtain ⟨p, q, t, h2, hq, hl, hz⟩ := gets_known o s k x hask
    obtain ⟨p', q', t', h3, hq', hg, hst⟩ := back_known o s k x st hask
    by_cases h0 : wo (dn (wi s o) (wi q p)) x = 0
    · exact knows_0 o s k x st w hs hT hask p q t h2 hq p' q' t' h3 hq' hg hst (if k = 1 then 4 else 5) rfl h0
    · have hk : k = 2 := by
        by_cases e : k = 2
        · exact e
        · exact absurd (hz e) h0
      exact knows_2 o s k x st w hs hT hask p q t h2 hq p' q' t' h3 hq' hg hst 5 (by rw [hk]; rfl) h0 rfl hl
end Go.Proofs.YtplebmafdfciaaaDoor.en
