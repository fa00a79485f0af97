/-
  The law MemOther returns true: the walk. No condition but the bounds that each theorem names.
-/
import Derived.Test.YtcbkfgcjjhifdaaC8
import Derived.Test.YtcbkfgcjjhifdaaR
namespace Go.Proofs.Ytcbkfgcjjhifdaa.pp
open Go Go.ChangeShapes Go.WideShapes Go.ChangeAt Go.RowKit
set_option linter.unusedVariables false

theorem OpsAt.grown {w w' : World} {ad : Option Addr} {os : List OpX} (h : OpsAt w ad os) (hg : w.grownBy w' none) : OpsAt w' ad os := fun k q hq => by
  obtain ⟨b, off, e, h1, h2, h3, h4⟩ := h k q hq
  exact ⟨b, off, e, hg.cell h1 (by simp), hg.cell h2 (by simp), hg.cell h3 (by simp), hg.cell h4 (by simp)⟩

theorem inn_iff (n : Nat) (i k : Int) : inn n i k = true ↔ 0 ≤ i ∧ i < n ∧ 0 ≤ k ∧ k < 16 := by simp [inn]
/-- What is set is told again. -/
theorem get_same (bs : List (List Int)) (i k x : Int) (hb : ∀ y ∈ bs, y.length = 16) (h : inn bs.length i k = true) : getW (setW bs i k x) i k = x := by
  obtain ⟨h1, h2, h3, h4⟩ := (inn_iff _ _ _).1 h
  have hi : i.toNat < bs.length := by omega
  rw [getW, setW_length, h, if_pos rfl, setW, h, if_pos rfl]
  rw [List.getD_eq_getElem?_getD, List.getD_eq_getElem?_getD, List.getElem?_set_self hi, Option.getD_some, List.getD_eq_getElem?_getD, List.getElem?_eq_getElem hi, Option.getD_some, List.getElem?_set_self (by rw [hb _ (List.getElem_mem hi)]; omega)]
  rfl
/-- No other word is otherwise. -/
theorem get_other (bs : List (List Int)) (i k x i' k' : Int) (h : ¬ (inn bs.length i k = true ∧ i' = i ∧ k' = k)) : getW (setW bs i k x) i' k' = getW bs i' k' := by
  by_cases h0 : inn bs.length i k = true
  · obtain ⟨h1, h2, h3, h4⟩ := (inn_iff _ _ _).1 h0
    rw [getW, getW, setW_length]
    by_cases h' : inn bs.length i' k' = true
    · obtain ⟨g1, g2, g3, g4⟩ := (inn_iff _ _ _).1 h'
      rw [h', if_pos rfl, if_pos rfl, setW, h0, if_pos rfl]
      rw [List.getD_eq_getElem?_getD, List.getD_eq_getElem?_getD, List.getElem?_set]
      by_cases e : i.toNat = i'.toNat
      · have hlt : i.toNat < bs.length := by omega
        have hne : k.toNat ≠ k'.toNat := by intro hk; exact h ⟨h0, by omega, by omega⟩
        rw [if_pos e, if_pos hlt, Option.getD_some, List.getElem?_set_ne hne, e]; simp only [List.getD_eq_getElem?_getD]
      · rw [if_neg e]; simp only [List.getD_eq_getElem?_getD]
    · rw [if_neg h', if_neg h']
  · rw [setW, if_neg h0]

set_option maxHeartbeats 2000000 in
theorem other_true (os : List OpX) (ad : Option Addr) (len cap : Nat) (block word x b k : Int) (w : World) (hlen : len = os.length) (hat : OpsAt w ad os) :
    Calls Try.prog 6 #[.slice ad len cap, .int .i64 block, .int .i64 word, .int .u32 x, .int .i64 b, .int .i64 k] w fun e w' => e = .returned (.bool true) ∧ w.grownBy w' none := by
  by_cases h400 : 400 < len
  · have hd : decide ((400 : Int) < (len : Int)) = true := by simp; omega
    clear hlen hat
    go_enter Try.func6, Try.ntmps6
    go_wp2_with (go_at_call 15; ((refine (works_any _).mono ?_); rintro e w3 ⟨rfl, hg3⟩))
    go_ret
    exact ⟨rfl, hg3⟩
  · have hd : decide ((400 : Int) < (len : Int)) = false := by simp; omega
    have hn := new_ok 8 w (by omega) (by omega)
    rw [show ((8 : Nat) : Int) = 8 from rfl] at hn
    have HN := Lib.hid hn
    have HA := Lib.hid hat
    have HL := Lib.hid hlen
    clear hn hat hlen
    go_enter Try.func6, Try.ntmps6
    go_wp2_with (go_at_call 10; ((with_reducible refine HN.out.mono ?_); rintro e w1 ⟨mb, mv, rfl, hm1, hg1, _, hv1⟩; have HM1 := Lib.hid hm1; have HG1 := Lib.hid hg1; have HV := Lib.hid hv1; clear hm1 hg1 hv1))
    go_loopw [33] (fun i wr => ∃ (j : Nat) (bs : List (List Int)), j ≤ len ∧ i = .int .i64 (j : Int) ∧ bs.length = 8 ∧ Mem wr mb mv bs ∧ w.grownBy wr none) (fun i _ => len - (intOf i).toNat)
    case atStart => exact ⟨0, _, Nat.zero_le _, rfl, by simp, HM1.out, HG1.out⟩
    case round =>
      obtain ⟨j, bs, hj, rfl, hb8, hm, hg⟩ := hrel
      have HB8 := Lib.hid hb8
      have HM := Lib.hid hm
      have HG := Lib.hid hg
      clear hb8 hm hg
      by_cases hlt : j < len
      · obtain ⟨q, hq⟩ : ∃ q, os[j]? = some q := ⟨_, List.getElem?_eq_getElem (by have := HL.out; omega)⟩
        obtain ⟨g, off, rfl, c0, c1, c2, c3⟩ := (HA.out.grown HG.out) j q hq
        clear hq
        rw [← Nat.add_assoc] at c1 c2 c3
        go_wp2_with (go_at_call 16; ((refine (set_word_any (HM.out.kept (grown_alloc (grown_refl _ _) _)) q.block q.word q.x).mono ?_); rintro e w2 ⟨rfl, hm2, hg2⟩; have HM2 := Lib.hid hm2; have HG2 := Lib.hid (grown_fresh (grown_alloc HG.out _) hg2 HV.out); clear hm2 hg2))
        go_roundw
        case rel => exact ⟨j + 1, _, by omega, by go_num, by rw [setW_length]; exact HB8.out, HM2.out, HG2.out⟩
        case measure => simp [intOf]; omega
      · obtain rfl : j = len := by omega
        clear hlt hj
        have hw1 := word_any HM.out b k
        have hsame := get_same bs block word x HM.out.len
        have hoth := get_other bs block word x b k
        rw [HB8.out] at hw1 hsame hoth
        obtain ⟨was, hwas⟩ : ∃ z, z = getW bs b k := ⟨_, rfl⟩
        obtain ⟨e0, he0⟩ : ∃ z, z = err (inn 8 b k) := ⟨_, rfl⟩
        have hne : (e0 != e0) = false := by simp
        have hxx : (x == x) = true := by simp
        have hww : (was == was) = true := by simp
        rw [← hwas] at hw1 hoth
        rw [← he0] at hw1
        have HW1 := Lib.hid hw1
        have HS : Hid (∀ w1, wr.grownBy w1 none → Calls Try.prog 16 #[.pointer (some ⟨mb, 0, none⟩), .int .i64 block, .int .i64 word, .int .u32 x] w1 fun e w' => e = .returned (.int .i64 (err (inn 8 block word))) ∧ Mem w' mb mv (setW bs block word x) ∧ w1.grownBy w' mv.ownBlock) := Lib.hid fun w1 h1 => by
          have := set_word_any (HM.out.kept h1) block word x
          rwa [HB8.out] at this
        have HN2 : Hid (∀ w2, Mem w2 mb mv (setW bs block word x) → Calls Try.prog 11 #[.pointer (some ⟨mb, 0, none⟩), .int .i64 b, .int .i64 k] w2 fun e w' => e = .returned (.tuple #[.int .u32 (getW (setW bs block word x) b k), .int .i64 e0]) ∧ w2.grownBy w' none) := Lib.hid fun w2 h2 => by
          have := word_any h2 b k
          rwa [setW_length, HB8.out, ← he0] at this
        clear hw1 hwas he0
        by_cases hin : inn 8 block word = true
        · obtain ⟨h1, h2, h3, h4⟩ := (inn_iff _ _ _).1 hin
          have h2' : block < 8 := h2
          rw [hin, show err true = 0 from rfl] at HS
          by_cases hbb : b = block
          · by_cases hkk : k = word
            · subst hbb; subst hkk
              rw [hsame hin] at HN2
              clear hsame hoth hin h2
              go_wp2_with (first
                | (go_at_call 11; ((with_reducible refine HW1.out.mono ?_); rintro e w1 ⟨rfl, hg1⟩; have HG1 := Lib.hid hg1; clear hg1))
                | (go_at_call 16; ((with_reducible refine (HS.out _ HG1.out).mono ?_); rintro e w2 ⟨rfl, hm2, hg2⟩; have HM2 := Lib.hid hm2; have HG2 := Lib.hid (grown_fresh (grown_trans HG.out HG1.out) hg2 HV.out); clear hm2 hg2))
                | (go_at_call 11; ((with_reducible refine (HN2.out _ HM2.out).mono ?_); rintro e w3 ⟨rfl, hg3⟩; have HG3 := Lib.hid (grown_trans HG2.out hg3); clear hg3))
                | (go_at_call 15; ((refine (works_any _).mono ?_); rintro e w4 ⟨rfl, hg4⟩; have HG4 := Lib.hid (grown_trans HG3.out hg4); clear hg4)))
              go_ret
              exact ⟨rfl, HG4.out⟩
            · have hk2 : (k == word) = false := by simpa using hkk
              subst hbb
              rw [hoth (fun h => hkk h.2.2)] at HN2
              clear hsame hoth hin h2 hkk
              go_wp2_with (first
                | (go_at_call 11; ((with_reducible refine HW1.out.mono ?_); rintro e w1 ⟨rfl, hg1⟩; have HG1 := Lib.hid hg1; clear hg1))
                | (go_at_call 16; ((with_reducible refine (HS.out _ HG1.out).mono ?_); rintro e w2 ⟨rfl, hm2, hg2⟩; have HM2 := Lib.hid hm2; have HG2 := Lib.hid (grown_fresh (grown_trans HG.out HG1.out) hg2 HV.out); clear hm2 hg2))
                | (go_at_call 11; ((with_reducible refine (HN2.out _ HM2.out).mono ?_); rintro e w3 ⟨rfl, hg3⟩; have HG3 := Lib.hid (grown_trans HG2.out hg3); clear hg3))
                | (go_at_call 15; ((refine (works_any _).mono ?_); rintro e w4 ⟨rfl, hg4⟩; have HG4 := Lib.hid (grown_trans HG3.out hg4); clear hg4)))
              go_ret
              exact ⟨rfl, HG4.out⟩
          · have hb2 : (b == block) = false := by simpa using hbb
            rw [hoth (fun h => hbb h.2.1)] at HN2
            clear hsame hoth hin h2 hbb
            go_wp2_with (first
              | (go_at_call 11; ((with_reducible refine HW1.out.mono ?_); rintro e w1 ⟨rfl, hg1⟩; have HG1 := Lib.hid hg1; clear hg1))
              | (go_at_call 16; ((with_reducible refine (HS.out _ HG1.out).mono ?_); rintro e w2 ⟨rfl, hm2, hg2⟩; have HM2 := Lib.hid hm2; have HG2 := Lib.hid (grown_fresh (grown_trans HG.out HG1.out) hg2 HV.out); clear hm2 hg2))
              | (go_at_call 11; ((with_reducible refine (HN2.out _ HM2.out).mono ?_); rintro e w3 ⟨rfl, hg3⟩; have HG3 := Lib.hid (grown_trans HG2.out hg3); clear hg3))
              | (go_at_call 15; ((refine (works_any _).mono ?_); rintro e w4 ⟨rfl, hg4⟩; have HG4 := Lib.hid (grown_trans HG3.out hg4); clear hg4)))
            go_ret
            exact ⟨rfl, HG4.out⟩
        · rw [hoth (fun h => hin h.1)] at HN2
          have hnot : ¬ (0 ≤ block ∧ block < 8 ∧ 0 ≤ word ∧ word < 16) := fun h => hin ((inn_iff _ _ _).2 h)
          rw [Bool.not_eq_true] at hin
          rw [hin, show err false = 5 from rfl] at HS
          clear hsame hoth hin
          by_cases h1 : 0 ≤ block
          · by_cases h2 : block < 8
            · by_cases h3 : 0 ≤ word
              · have h4 : 16 ≤ word := by omega
                clear hnot
                go_wp2_with (first
                  | (go_at_call 11; ((with_reducible refine HW1.out.mono ?_); rintro e w1 ⟨rfl, hg1⟩; have HG1 := Lib.hid hg1; clear hg1))
                  | (go_at_call 16; ((with_reducible refine (HS.out _ HG1.out).mono ?_); rintro e w2 ⟨rfl, hm2, hg2⟩; have HM2 := Lib.hid hm2; have HG2 := Lib.hid (grown_fresh (grown_trans HG.out HG1.out) hg2 HV.out); clear hm2 hg2))
                  | (go_at_call 11; ((with_reducible refine (HN2.out _ HM2.out).mono ?_); rintro e w3 ⟨rfl, hg3⟩; have HG3 := Lib.hid (grown_trans HG2.out hg3); clear hg3))
                  | (go_at_call 15; ((refine (works_any _).mono ?_); rintro e w4 ⟨rfl, hg4⟩; have HG4 := Lib.hid (grown_trans HG3.out hg4); clear hg4)))
                go_ret
                exact ⟨rfl, HG4.out⟩
              · clear hnot
                go_wp2_with (first
                  | (go_at_call 11; ((with_reducible refine HW1.out.mono ?_); rintro e w1 ⟨rfl, hg1⟩; have HG1 := Lib.hid hg1; clear hg1))
                  | (go_at_call 16; ((with_reducible refine (HS.out _ HG1.out).mono ?_); rintro e w2 ⟨rfl, hm2, hg2⟩; have HM2 := Lib.hid hm2; have HG2 := Lib.hid (grown_fresh (grown_trans HG.out HG1.out) hg2 HV.out); clear hm2 hg2))
                  | (go_at_call 11; ((with_reducible refine (HN2.out _ HM2.out).mono ?_); rintro e w3 ⟨rfl, hg3⟩; have HG3 := Lib.hid (grown_trans HG2.out hg3); clear hg3))
                  | (go_at_call 15; ((refine (works_any _).mono ?_); rintro e w4 ⟨rfl, hg4⟩; have HG4 := Lib.hid (grown_trans HG3.out hg4); clear hg4)))
                go_ret
                exact ⟨rfl, HG4.out⟩
            · clear hnot
              go_wp2_with (first
                | (go_at_call 11; ((with_reducible refine HW1.out.mono ?_); rintro e w1 ⟨rfl, hg1⟩; have HG1 := Lib.hid hg1; clear hg1))
                | (go_at_call 16; ((with_reducible refine (HS.out _ HG1.out).mono ?_); rintro e w2 ⟨rfl, hm2, hg2⟩; have HM2 := Lib.hid hm2; have HG2 := Lib.hid (grown_fresh (grown_trans HG.out HG1.out) hg2 HV.out); clear hm2 hg2))
                | (go_at_call 11; ((with_reducible refine (HN2.out _ HM2.out).mono ?_); rintro e w3 ⟨rfl, hg3⟩; have HG3 := Lib.hid (grown_trans HG2.out hg3); clear hg3))
                | (go_at_call 15; ((refine (works_any _).mono ?_); rintro e w4 ⟨rfl, hg4⟩; have HG4 := Lib.hid (grown_trans HG3.out hg4); clear hg4)))
              go_ret
              exact ⟨rfl, HG4.out⟩
          · clear hnot
            go_wp2_with (first
              | (go_at_call 11; ((with_reducible refine HW1.out.mono ?_); rintro e w1 ⟨rfl, hg1⟩; have HG1 := Lib.hid hg1; clear hg1))
              | (go_at_call 16; ((with_reducible refine (HS.out _ HG1.out).mono ?_); rintro e w2 ⟨rfl, hm2, hg2⟩; have HM2 := Lib.hid hm2; have HG2 := Lib.hid (grown_fresh (grown_trans HG.out HG1.out) hg2 HV.out); clear hm2 hg2))
              | (go_at_call 11; ((with_reducible refine (HN2.out _ HM2.out).mono ?_); rintro e w3 ⟨rfl, hg3⟩; have HG3 := Lib.hid (grown_trans HG2.out hg3); clear hg3))
              | (go_at_call 15; ((refine (works_any _).mono ?_); rintro e w4 ⟨rfl, hg4⟩; have HG4 := Lib.hid (grown_trans HG3.out hg4); clear hg4)))
            go_ret
            exact ⟨rfl, HG4.out⟩
end Go.Proofs.Ytcbkfgcjjhifdaa.pp
