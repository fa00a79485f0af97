/-
  The law CachePlays returns true: the walk. Condition: the table of bounds lies in its variable as the program's text has it; that the script has its calls.
-/
import Derived.Test.YtjbapfjeildfoaaDoorF3
import Derived.Test.YtjbapfjeildfoaaDoorF4
import Derived.Test.YtjbapfjeildfoaaDoorF5
namespace Go.Proofs.YtjbapfjeildfoaaDoor.kk
open Go Go.ChangeShapes Go.WideShapes Go.ChangeAt Go.RowKit Go.Shelf
set_option linter.unusedVariables false

set_option maxRecDepth 1000000 in
set_option maxHeartbeats 1000000 in
theorem plays_long (c : Cfg) (ad : Option Addr) (len cap : Nat) (w : World) (hT : Tab w) (h : 300 < len) :
    Calls Tryd.prog 4 #[.agg c.cells, .slice ad len cap] w fun e w' => e = .returned (.bool true) ∧ w.grownBy w' none := by
  have hd : decide ((300 : Int) < (len : Int)) = true := by simp; omega
  have HG0 : Hid (w.grownBy (w.alloc (.cells c.cells 27)) none) := Lib.hid (grown_alloc (grown_refl _ _) _)
  have HW : Hid (∀ w', w.grownBy w' none → _) := Lib.hid (fun w' h => works_any w' (hT.grown h))
  clear hT h
  unfold Cfg.cells at *
  go_enter Tryd.func4, Tryd.ntmps4
  go_wp2_with (first
    | (go_at_call 10; ((with_reducible refine (HW.out _ HG0.out).mono ?_); rintro e w3 ⟨rfl, hg3⟩; have HG3 := Lib.hid (grown_trans HG0.out hg3); clear hg3))
    | (go_at_call 10; ((with_reducible refine (HW.out _ HG3.out).mono ?_); rintro e w4 ⟨rfl, hg4⟩; have HG4 := Lib.hid (grown_trans HG3.out hg4); clear hg4)))
  go_ret
  exact ⟨rfl, HG4.out⟩
set_option maxRecDepth 1000000 in
set_option maxHeartbeats 1000000 in
theorem plays_no (c : Cfg) (ad : Option Addr) (len cap : Nat) (w : World) (hT : Tab w) (h : len ≤ 300) (hm : ¬ c.may) :
    Calls Tryd.prog 4 #[.agg c.cells, .slice ad len cap] w fun e w' => e = .returned (.bool true) ∧ w.grownBy w' none := by
  have hd : decide ((300 : Int) < (len : Int)) = false := by simp; omega
  have HG0 : Hid (w.grownBy (w.alloc (.cells c.cells 27)) none) := Lib.hid (grown_alloc (grown_refl _ _) _)
  have HW : Hid (∀ w', w.grownBy w' none → _) := Lib.hid (fun w' h => works_any w' (hT.grown h))
  have HN : Hid (∀ w', w.grownBy w' none → _) := Lib.hid (fun w' h => new_no c w' (hT.grown h) hm)
  have HM : Hid (∀ w', _) := Lib.hid (fun w' => rnew_no c w' hm)
  have HA := Lib.hid (cfg_at w c)
  obtain ⟨c0, c1, c2, c3, c4, c5, c6, c7⟩ := cfg_at w c
  clear hT h hm
  unfold Cfg.cells at HN HM HG0 HW HA c0 c1 c2 c3 c4 c5 c6 c7 ⊢
  go_enter Tryd.func4, Tryd.ntmps4
  go_wp2_with (first
    | (go_at_call 10; ((with_reducible refine (HW.out _ HG0.out).mono ?_); rintro e w3 ⟨rfl, hg3⟩; obtain ⟨d0, d1, d2, d3, d4, d5, d6, d7⟩ := HA.out.grown hg3; have HA3 := Lib.hid (HA.out.grown hg3); have HG3 := Lib.hid (grown_trans HG0.out hg3); clear hg3))
    | (go_at_call 8; ((with_reducible refine (HN.out _ HG3.out).mono ?_); rintro e w4 ⟨rfl, hg4⟩; obtain ⟨f0, f1, f2, f3, f4, f5, f6, f7⟩ := HA3.out.grown hg4; have HG4 := Lib.hid (grown_trans HG3.out hg4); clear hg4))
    | (go_at_call 21; ((with_reducible refine (HM.out _).mono ?_); rintro e w5 ⟨rfl, hg5⟩; have HG5 := Lib.hid (grown_trans HG4.out hg5); clear hg5))
    | (go_at_call 10; ((with_reducible refine (HW.out _ HG5.out).mono ?_); rintro e w6 ⟨rfl, hg6⟩; have HG6 := Lib.hid (grown_trans HG5.out hg6); clear hg6)))
  go_ret
  exact ⟨rfl, HG6.out⟩

/-- Where both caches lie behind some calls. -/
structure Pair (w wr : World) (K : Loc) (R : RLoc) (c : Cfg) (ss : List St) : Prop where
  both : Both wr K R c ss
  old : w.grownBy wr none
  kn : ∀ k, K.any k → w.heap.size ≤ k
theorem Pair.more {w wr w' : World} {K : Loc} {R : RLoc} {c : Cfg} {ss : List St} (P : Pair w wr K R c ss) (h : wr.grownBy w' none) : Pair w w' K R c ss := ⟨P.both.grown h, grown_trans P.old h, P.kn⟩
theorem Pair.next {w wr w' : World} {K K' : Loc} {R : RLoc} {c : Cfg} {ss ss' : List St} (P : Pair w wr K R c ss) (hR : ∀ k, R.any k → w.heap.size ≤ k) (D : Done wr w' K K' R c ss') : Pair w w' K' R c ss' :=
  ⟨D.both, D.kept.below P.old (fun k hk => by
    rcases hk with hk | hk
    · exact P.kn k (.inr hk)
    · exact hR k (.inr hk)), by
    rcases D.loc with rfl | h
    · exact P.kn
    · exact fun k hk => Nat.le_trans P.old.size (h k hk)⟩

set_option maxRecDepth 1000000 in
set_option maxHeartbeats 8000000 in
theorem plays_some (c : Cfg) (os : List OpX) (ad : Option Addr) (len cap : Nat) (w : World) (hT : Tab w) (hlen : len = os.length) (hat : OpsAt w ad os) (h : len ≤ 300) (hm : c.may) :
    Calls Tryd.prog 4 #[.agg c.cells, .slice ad len cap] w fun e w' => e = .returned (.bool true) ∧ w.grownBy w' none := by
  have hd : decide ((300 : Int) < (len : Int)) = false := by simp; omega
  have HG0 : Hid (w.grownBy (w.alloc (.cells c.cells 27)) none) := Lib.hid (grown_alloc (grown_refl _ _) _)
  have HW : Hid (∀ w', w.grownBy w' none → _) := Lib.hid (fun w' h => works_any w' (hT.grown h))
  have HN : Hid (∀ w', w.grownBy w' none → _) := Lib.hid (fun w' h => new_ok c w' (hT.grown h) hm)
  have HM : Hid (∀ w', _) := Lib.hid (fun w' => rnew_ok c w' hm)
  have HA := Lib.hid (cfg_at w c)
  obtain ⟨c0, c1, c2, c3, c4, c5, c6, c7⟩ := cfg_at w c
  have HT := Lib.hid (fun w' (h : w.grownBy w' none) => hT.grown h)
  have HAT := Lib.hid (fun w' (h : w.grownBy w' none) => hat.grown h)
  have HL := Lib.hid hlen
  have HLEN := Lib.hid h
  clear hT h hm hat hlen
  unfold Cfg.cells at HN HM HG0 HW HA c0 c1 c2 c3 c4 c5 c6 c7 ⊢
  go_enter Tryd.func4, Tryd.ntmps4
  go_wp2_with (first
    | (go_at_call 10; ((with_reducible refine (HW.out _ HG0.out).mono ?_); rintro e w3 ⟨rfl, hg3⟩; obtain ⟨d0, d1, d2, d3, d4, d5, d6, d7⟩ := HA.out.grown hg3; have HA3 := Lib.hid (HA.out.grown hg3); have HG3 := Lib.hid (grown_trans HG0.out hg3); clear hg3))
    | (go_at_call 8; ((with_reducible refine (HN.out _ HG3.out).mono ?_); rintro e w4 ⟨K, rfl, hc4, hg4, hf4⟩; obtain ⟨f0, f1, f2, f3, f4, f5, f6, f7⟩ := HA3.out.grown hg4; have HC4 := Lib.hid hc4; have HG4 := Lib.hid (grown_trans HG3.out hg4); have HF4 := Lib.hid (fun k hk => Nat.le_trans HG3.out.size (hf4 k hk)); clear hg4 hc4 hf4))
    | (go_at_call 21; ((with_reducible refine (HM.out _).mono ?_); rintro e w5 ⟨R, rfl, hr5, hg5, hf5⟩; have HRN := Lib.hid (fun k hk => Nat.le_trans HG4.out.size (hf5 k hk)); have HP5 : Hid (Pair w w5 K R c (empty c)) := Lib.hid ⟨⟨HC4.out.grown hg5, hr5, Inv.empty c, fun k h1 h2 => by have a1 := HC4.out.lt h1; have a2 := hf5 k h2; omega⟩, grown_trans HG4.out hg5, HF4.out⟩; clear hr5 hg5 hf5 c0 c1 c2 c3 c4 c5 c6 c7 d0 d1 d2 d3 d4 d5 d6 d7 f0 f1 f2 f3 f4 f5 f6 f7)))
  clear HN HM HA HA3 HC4 HF4
  go_loopw [41, 5] (fun i tv wr => ∃ (j : Nat) (K : Loc) (ss : List St), j ≤ len ∧ i = .int .i64 (j : Int) ∧ tv = .pointer (some ⟨K.b, 0, none⟩) ∧ Pair w wr K R c ss) (fun i _ _ => len - (intOf i).toNat)
  case atStart => exact ⟨0, _, _, Nat.zero_le _, rfl, rfl, HP5.out⟩
  case round =>
    clear HP5
    obtain ⟨j, K, ss, hj, rfl, rfl, hr⟩ := hrel
    have HP := Lib.hid hr
    have hj300 : j ≤ 300 := by have := HLEN.out; omega
    by_cases hlt : j < len
    · obtain ⟨q, hq⟩ : ∃ q, os[j]? = some q := ⟨_, List.getElem?_eq_getElem (by have := HL.out; omega)⟩
      obtain ⟨g, off, rfl, d0, d1, d2, d3, d4⟩ := (HAT.out _ hr.old) j q hq
      have HPB := Lib.hid (hr.more (grown_alloc (grown_refl wr none) (.cells (opCells q) 50)))
      have HDO := Lib.hid (does_any K R c ss q _ HPB.out.both (HT.out _ HPB.out.old))
      unfold opCells at HDO HPB
      clear hr hq
      go_wp2_with (first
        | (go_at_call 22; ((with_reducible refine HDO.out.mono ?_); rintro e w6 ⟨K', ss', rfl, hd6⟩; have HP6 := Lib.hid (HPB.out.next HRN.out hd6); clear hd6; obtain ⟨n, hn⟩ : ∃ n, n = (told ss').length := ⟨_, rfl⟩; have HNN := Lib.hid hn; have hbn : ((n : Int) != (n : Int)) = false := (by simp); clear hn))
        | (go_at_call 19; ((with_reducible refine (len_any K' c ss' _ HP6.out.both.cac).mono ?_); rintro e w7 ⟨he, hg7⟩; (rw [← HNN.out] at he); subst he; have HP7 := Lib.hid (HP6.out.more hg7); clear hg7))
        | (go_at_call 23; ((with_reducible refine (rall_any R c ss' _ HP7.out.both.rac).mono ?_); rintro e w8 ⟨u8, rfl, hs8, hg8⟩; have HP8 := Lib.hid (HP7.out.more hg8); clear hg8; obtain ⟨ad8, cap8, rfl⟩ := hs8.form; (rw [← HNN.out]); clear hs8)))
      go_roundw
      case rel => exact ⟨j + 1, _, _, by omega, by go_num, rfl, HP8.out⟩
      case measure => simp [intOf]; omega
    · obtain rfl : j = len := by omega
      clear hr
      go_wp2_with (first
        | (go_at_call 26; ((with_reducible refine ((callsIn_wide (n := 9)).1 (all_in 9 (some ⟨K.b, 0, none⟩) wr)).mono ?_); rintro e w6 ⟨rfl, he⟩; have HP6 := Lib.hid (HP.out.more (w' := w6) (he ▸ grown_alloc (grown_refl wr none) _)); have HB6 : Hid (w6.cell? ⟨wr.heap.size, 0, none⟩ = some (.pointer (some ⟨K.b, 0, none⟩))) := Lib.hid (by rw [he]; simp [go_sem]); clear he))
        | (go_at_call 25; ((with_reducible refine (collect_any K c ss wr.heap.size w6 HP6.out.both.cac HB6.out).mono ?_); rintro e w7 ⟨u7, rfl, hs7, hg7⟩; have HP7 := Lib.hid (HP6.out.more hg7); have HS7 := Lib.hid hs7; clear hs7 hg7))
        | (go_at_call 23; ((with_reducible refine (rall_any R c ss w7 HP7.out.both.rac).mono ?_); rintro e w8 ⟨u8, rfl, hs8, hg8⟩; have HP8 := Lib.hid (HP7.out.more hg8); have HS8 := Lib.hid hs8; have HS78 := Lib.hid (HS7.out.grown hg8); clear hs8 hg8))
        | (go_at_call 24; ((with_reducible refine (equal_yes u7 u8 (told ss) w8 HS78.out HS8.out (Nat.le_trans (told_64 HP8.out.both.cac) (by omega))).mono ?_); rintro e w9 ⟨rfl, hg9⟩; have HG9 := Lib.hid (grown_trans HP8.out.old hg9); clear hg9))
        | (go_at_call 10; ((with_reducible refine (HW.out _ HG9.out).mono ?_); rintro e w10 ⟨rfl, hg10⟩; have HG10 := Lib.hid (grown_trans HG9.out hg10); clear hg10)))
      go_ret
      exact ⟨rfl, HG10.out⟩
theorem plays_true (c : Cfg) (os : List OpX) (ad : Option Addr) (len cap : Nat) (w : World) (hT : Tab w) (hlen : len = os.length) (hat : OpsAt w ad os) :
    Calls Tryd.prog 4 #[.agg c.cells, .slice ad len cap] w fun e w' => e = .returned (.bool true) ∧ w.grownBy w' none := by
  by_cases h : 300 < len
  · exact plays_long c ad len cap w hT h
  · by_cases hm : c.may
    · exact plays_some c os ad len cap w hT hlen hat (by omega) hm
    · exact plays_no c ad len cap w hT (by omega) hm
end Go.Proofs.YtjbapfjeildfoaaDoor.kk
