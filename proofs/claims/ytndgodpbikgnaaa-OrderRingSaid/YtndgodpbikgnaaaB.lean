/-
  Rows of stamps and of bools as arguments; the law OrderFlags walked. No condition but that stamps are at least 0.
-/
import Derived.Test.YtndgodpbikgnaaaA
import Derived.Deep.Grids
import Derived.LaidMore
import Derived.Stop.Joined
import Derived.Below
namespace Go.Proofs.Ytndgodpbikgnaaa.oo
open Go Go.ChangeShapes Go.WideShapes Go.ChangeAt Go.RowKit
set_option linter.unusedVariables false
set_option linter.unusedSimpArgs false

def intOf : Value → Int | .int _ q => q | _ => 0
/-- The values vs lie in a row behind the address. -/
def At (w : World) (ad : Option Addr) (vs : List Value) : Prop := ∀ (k : Nat) x, vs[k]? = some x → ∃ b off, ad = some ⟨b, off, none⟩ ∧ w.cell? ⟨b, off + k, none⟩ = some x
abbrev U (x : Int) : Value := .int .u64 x
theorem laidOut : laidOutB Try.prog = true := by kernel_rfl
theorem cells24 : Try.prog.cellsOf 24 = 1 := by kernel_rfl
theorem cells4 : Try.prog.cellsOf 4 = 1 := by kernel_rfl
theorem add_lit' (g off j : Nat) : (⟨g, off, none⟩ : Addr).add j = ⟨g, off + j, none⟩ := by unfold Addr.add; split <;> simp_all
theorem at_of {W : World} {a : Addr} {vs : List Value} (h : ∀ (k : Nat) x, vs[k]? = some x → W.cell? (a.add k) = some x) : At W (some a) vs := fun k x hk => by
  obtain ⟨b, off, spot⟩ := a
  have h0 : 0 < vs.length := by have := (List.getElem?_eq_some_iff.1 hk).1; omega
  have hspot : spot = none := by simpa [Addr.add] using World.cell?_spot (h 0 _ (List.getElem?_eq_getElem h0))
  subst hspot
  have := h k x hk
  rw [add_lit'] at this
  exact ⟨b, off, rfl, this⟩

section
variable {H : Type} {enc : TypeId × Value → H} {W : World} {d : DataW H} {p : List MemPlace}
theorem words_at {a0 : Option Addr} {len cap : Nat} (h : DataW.Trod enc Try.prog W 0 (fun _ => true) true 29 (.slice a0 len cap) d p) : ∃ xs : List Int, len = xs.length ∧ At W a0 (xs.map U) ∧ ∀ x ∈ xs, 0 ≤ x ∧ x < 18446744073709551616 := by
  obtain ⟨fuel, hf⟩ := h
  rcases open_ints Try.underlying29 Try.underlying24 cells24 hf with ⟨hcs, hx⟩ | ⟨a, len', cap', zs, hcs, _, hl, hm, hz, hx, hcell, hwz⟩
  · simp [Value.cells] at hcs
    obtain ⟨rfl, rfl, rfl⟩ := hcs
    exact ⟨[], rfl, fun k x hk => by simp at hk, fun x hx => by simp at hx⟩
  · simp [Value.cells] at hcs
    obtain ⟨rfl, rfl, rfl⟩ := hcs
    simp only [if_true] at hz
    refine ⟨zs.take len, by simp; omega, at_of fun k x hk => ?_, fun x hx => ?_⟩
    · rw [List.getElem?_map, Option.map_eq_some_iff] at hk
      obtain ⟨y, hy, rfl⟩ := hk
      rw [List.getElem?_take] at hy
      split at hy
      · rename_i hkl
        have hc := hcell k (by omega)
        have hzk : zs.getD k 0 = y := by rw [List.getD_eq_getElem?_getD, hy]; rfl
        rw [hzk] at hc; exact hc
      · cases hy
    · have := bounds_u64 (hwz x (List.mem_of_mem_take hx)); omega
theorem bools_at {a0 : Option Addr} {len cap : Nat} (h : DataW.Trod enc Try.prog W 0 (fun _ => true) true 30 (.slice a0 len cap) d p) : ∃ xs : List Bool, len = xs.length ∧ At W a0 (xs.map Value.bool) := by
  obtain ⟨fuel, hf⟩ := h
  rcases Go.Deep.open_bools Try.underlying30 Try.underlying4 cells4 hf with ⟨hcs, hx⟩ | ⟨a, len', cap', B, hcs, _, hl, hm, hx, hcell⟩
  · simp [Value.cells] at hcs
    obtain ⟨rfl, rfl, rfl⟩ := hcs
    exact ⟨[], rfl, fun k x hk => by simp at hk⟩
  · simp [Value.cells] at hcs
    obtain ⟨rfl, rfl, rfl⟩ := hcs
    refine ⟨(List.range len).map B, by simp, at_of fun k x hk => ?_⟩
    simp only [List.map_map, List.getElem?_map, Option.map_eq_some_iff] at hk
    obtain ⟨y, hy, rfl⟩ := hk
    obtain ⟨hy1, hy2⟩ := List.getElem?_eq_some_iff.1 hy
    simp at hy1 hy2
    subst hy2
    exact hcell k (by omega)
theorem bool_open {v : Value} {base : Nat} (hv : Value.okWide Try.prog W .any base 4 v) (h : DataW.Trod enc Try.prog W 0 (fun _ => true) true 4 v d p) : ∃ b : Bool, v = .bool b ∧ d = .lit (.bool b) ∧ p = [] ∧ True := by
  obtain ⟨fuel, hf⟩ := h
  obtain ⟨b, h1, h2⟩ := DataW.trod_bool Try.underlying4 hf
  simp at h2
  refine ⟨b, ?_, h2.1, h2.2, trivial⟩
  have hu := Try.underlying4
  cases v <;> first
    | (simp [Value.cells] at h1; rw [h1]; done)
    | (unfold Value.okWide at hv; rw [hu] at hv; exact hv.elim)
theorem bool_shut {base : Nat} {sp : Nat → Bool} {held : Bool} {b : Bool} (h : True) : DataW.Trod enc Try.prog W base sp held 4 (.bool b) (.lit (.bool b)) [] := shut_bool Try.underlying4 b
end

theorem grown_refl (w : World) (own : Option Nat) : w.grownBy w own := ⟨rfl, rfl, rfl, Nat.le_refl _, fun _ _ _ => rfl⟩
theorem below_of {w w' : World} (h : w.grownBy w' none) : Below w.heap.size w w' := ⟨h.os, h.tape, h.output, h.size, fun k hk => h.block k hk (by simp)⟩

/-- What the flag is behind an ask, told by its parts. -/
theorem flag_parts (own : Int) (u m : Bool) (s : Int) : flag' own u m s = (u || (m && (decide (own ≠ 0) && (decide (s ≠ 0) && decide (s < own))))) := by
  unfold flag' ref older
  by_cases h : own = 0 <;> cases u <;> cases m <;> simp [h]

set_option maxRecDepth 100000 in
set_option maxHeartbeats 3200000 in
theorem flags_true (own : Int) (f : Bool) (ms : List Bool) (ss : List Int) (ad2 ad3 : Option Addr) (c2 c3 : Nat) (w : World) (h0 : 0 ≤ own) (hs : ∀ x ∈ ss, 0 ≤ x ∧ x < 18446744073709551616) (h2 : At w ad2 (ms.map Value.bool)) (h3 : At w ad3 (ss.map U)) :
    Calls Try.prog 7 #[.int .u64 own, .bool f, .slice ad2 ms.length c2, .slice ad3 ss.length c3] w fun e w' => e = .returned (.bool true) ∧ w.grownBy w' none := by
  have HW := Lib.hid works_true
  by_cases hn : 200 < ss.length
  · have hn' : decide ((200 : Int) < (ss.length : Int)) = true := decide_eq_true (by omega)
    clear h2 h3 hs
    go_enter Try.func7, Try.ntmps7
    go_wp2_with (go_at_call 9; refine (HW.out _).mono ?_; rintro e w' ⟨rfl, rfl⟩)
    go_ret
    exact ⟨rfl, grown_refl _ _⟩
  · have hn' : decide ((200 : Int) < (ss.length : Int)) = false := decide_eq_false (by omega)
    have H2 := Lib.hid h2
    have H3 := Lib.hid h3
    clear h2 h3 hs
    go_enter Try.func7, Try.ntmps7
    go_wp2
    go_loopw [9, 10, 24] (fun v9 v10 v24 wr => ∃ (i : Nat) (u : Bool), i ≤ ss.length ∧ v9 = .bool u ∧ v10 = .bool u ∧ v24 = .int .i64 (i : Int) ∧ wr = w) (fun _ _ v24 _ => ss.length - (intOf v24).toNat)
    case atStart => exact ⟨0, f, Nat.zero_le _, rfl, rfl, rfl, rfl⟩
    case round =>
      obtain ⟨i, u, hi, rfl, rfl, rfl, rfl⟩ := hrel
      by_cases hlt : i < ss.length
      · obtain ⟨b3, o3, rfl, hc3⟩ := H3.out i (U ss[i]) (by simp [hlt])
        generalize ss[i] = s at hc3
        have HG : ∀ m : Bool, Hid (∀ w, Calls Try.prog 8 #[.int .u64 own, .bool u, .bool m, .int .u64 s] w fun e w' => e = .returned (.tuple #[.bool (decide (own ≠ 0) && m), .bool (u || (m && (decide (own ≠ 0) && (decide (s ≠ 0) && decide (s < own)))))]) ∧ w = w') := fun m => Lib.hid fun w => by
          have := asked_any own u m s w
          rwa [flag_parts] at this
        have hmm : ∃ m : Bool, (∃ b2 o2, ad2 = some ⟨b2, o2, none⟩ ∧ wr.cell? ⟨b2, o2 + i, none⟩ = some (.bool m) ∧ i < ms.length) ∨ (m = false ∧ ms.length ≤ i) := by
          by_cases h : i < ms.length
          · obtain ⟨b2, o2, hb, hc⟩ := H2.out i (.bool ms[i]) (by simp [h])
            exact ⟨ms[i], .inl ⟨b2, o2, hb, hc, h⟩⟩
          · exact ⟨false, .inr ⟨rfl, by omega⟩⟩
        obtain ⟨m, hm⟩ := hmm
        have HM := HG m
        clear HG
        have hb : ss.length ≤ 200 := by omega
        clear H2 H3 HW hn hn'
        rcases hm with ⟨b2, o2, rfl, hc2, hlm⟩ | ⟨rfl, hlm⟩
        · cases m
          · cases u
            · simp only [Bool.and_true, Bool.true_and, Bool.and_false, Bool.false_and, Bool.or_false, Bool.false_or, Bool.or_true, Bool.true_or] at HM
              go_wp2_with (go_at_call 8; refine (HM.out _).mono ?_; rintro e w' ⟨rfl, rfl⟩)
              go_roundw
              case rel => exact ⟨i + 1, _, by omega, rfl, rfl, by go_num, trivial⟩
              case measure => simp [intOf]; omega
            · simp only [Bool.and_true, Bool.true_and, Bool.and_false, Bool.false_and, Bool.or_false, Bool.false_or, Bool.or_true, Bool.true_or] at HM
              go_wp2_with (go_at_call 8; refine (HM.out _).mono ?_; rintro e w' ⟨rfl, rfl⟩)
              go_roundw
              case rel => exact ⟨i + 1, _, by omega, rfl, rfl, by go_num, trivial⟩
              case measure => simp [intOf]; omega
          · by_cases ho : own = 0
            · subst ho
              rw [show decide ((0 : Int) ≠ 0) = false by decide] at HM
              cases u
              · simp only [Bool.and_true, Bool.true_and, Bool.and_false, Bool.false_and, Bool.or_false, Bool.false_or, Bool.or_true, Bool.true_or] at HM
                go_wp2_with (go_at_call 8; refine (HM.out _).mono ?_; rintro e w' ⟨rfl, rfl⟩)
                go_roundw
                case rel => exact ⟨i + 1, _, by omega, rfl, rfl, by go_num, trivial⟩
                case measure => simp [intOf]; omega
              · simp only [Bool.and_true, Bool.true_and, Bool.and_false, Bool.false_and, Bool.or_false, Bool.false_or, Bool.or_true, Bool.true_or] at HM
                go_wp2_with (go_at_call 8; refine (HM.out _).mono ?_; rintro e w' ⟨rfl, rfl⟩)
                go_roundw
                case rel => exact ⟨i + 1, _, by omega, rfl, rfl, by go_num, trivial⟩
                case measure => simp [intOf]; omega
            · rw [show decide (own ≠ 0) = true by simp [ho]] at HM
              have ho' : (!(own != 0)) = false := by simp [ho]
              by_cases hs0 : s = 0
              · subst hs0
                rw [show decide ((0 : Int) ≠ 0) = false by decide] at HM
                cases u
                · simp only [Bool.and_true, Bool.true_and, Bool.and_false, Bool.false_and, Bool.or_false, Bool.false_or, Bool.or_true, Bool.true_or] at HM
                  go_wp2_with (go_at_call 8; refine (HM.out _).mono ?_; rintro e w' ⟨rfl, rfl⟩)
                  go_roundw
                  case rel => exact ⟨i + 1, _, by omega, rfl, rfl, by go_num, trivial⟩
                  case measure => simp [intOf]; omega
                · simp only [Bool.and_true, Bool.true_and, Bool.and_false, Bool.false_and, Bool.or_false, Bool.false_or, Bool.or_true, Bool.true_or] at HM
                  go_wp2_with (go_at_call 8; refine (HM.out _).mono ?_; rintro e w' ⟨rfl, rfl⟩)
                  go_roundw
                  case rel => exact ⟨i + 1, _, by omega, rfl, rfl, by go_num, trivial⟩
                  case measure => simp [intOf]; omega
              · rw [show decide (s ≠ 0) = true by simp [hs0]] at HM
                by_cases hso : s < own
                · rw [show decide (s < own) = true by simp [hso]] at HM
                  cases u
                  · simp only [Bool.and_true, Bool.true_and, Bool.and_false, Bool.false_and, Bool.or_false, Bool.false_or, Bool.or_true, Bool.true_or] at HM
                    go_wp2_with (go_at_call 8; refine (HM.out _).mono ?_; rintro e w' ⟨rfl, rfl⟩)
                    go_roundw
                    case rel => exact ⟨i + 1, _, by omega, rfl, by simp [ho, hs0], by go_num, trivial⟩
                    case measure => simp [intOf]; omega
                  · simp only [Bool.and_true, Bool.true_and, Bool.and_false, Bool.false_and, Bool.or_false, Bool.false_or, Bool.or_true, Bool.true_or] at HM
                    go_wp2_with (go_at_call 8; refine (HM.out _).mono ?_; rintro e w' ⟨rfl, rfl⟩)
                    go_roundw
                    case rel => exact ⟨i + 1, _, by omega, rfl, rfl, by go_num, trivial⟩
                    case measure => simp [intOf]; omega
                · have hso' : decide (s < own) = false := by simp [hso]
                  rw [hso'] at HM
                  clear hso
                  cases u
                  · simp only [Bool.and_true, Bool.true_and, Bool.and_false, Bool.false_and, Bool.or_false, Bool.false_or, Bool.or_true, Bool.true_or] at HM
                    go_wp2_with (go_at_call 8; refine (HM.out _).mono ?_; rintro e w' ⟨rfl, rfl⟩)
                    go_roundw
                    case rel => exact ⟨i + 1, _, by omega, rfl, rfl, by go_num, trivial⟩
                    case measure => simp [intOf]; omega
                  · simp only [Bool.and_true, Bool.true_and, Bool.and_false, Bool.false_and, Bool.or_false, Bool.false_or, Bool.or_true, Bool.true_or] at HM
                    go_wp2_with (go_at_call 8; refine (HM.out _).mono ?_; rintro e w' ⟨rfl, rfl⟩)
                    go_roundw
                    case rel => exact ⟨i + 1, _, by omega, rfl, rfl, by go_num, trivial⟩
                    case measure => simp [intOf]; omega
        · have hlm' : decide (i < ms.length) = false := by simp; omega
          cases u
          · simp only [Bool.and_true, Bool.true_and, Bool.and_false, Bool.false_and, Bool.or_false, Bool.false_or, Bool.or_true, Bool.true_or] at HM
            go_wp2_with (go_at_call 8; refine (HM.out _).mono ?_; rintro e w' ⟨rfl, rfl⟩)
            go_roundw
            case rel => exact ⟨i + 1, _, by omega, rfl, rfl, by go_num, trivial⟩
            case measure => simp [intOf]; omega
          · simp only [Bool.and_true, Bool.true_and, Bool.and_false, Bool.false_and, Bool.or_false, Bool.false_or, Bool.or_true, Bool.true_or] at HM
            go_wp2_with (go_at_call 8; refine (HM.out _).mono ?_; rintro e w' ⟨rfl, rfl⟩)
            go_roundw
            case rel => exact ⟨i + 1, _, by omega, rfl, rfl, by go_num, trivial⟩
            case measure => simp [intOf]; omega
      · obtain rfl : i = ss.length := by omega
        go_wp2_with (go_at_call 9; refine (HW.out _).mono ?_; rintro e w' ⟨rfl, rfl⟩)
        go_ret
        exact ⟨rfl, grown_refl _ _⟩
theorem flags_law (own : Int) (f : Bool) (ms : List Bool) (ss : List Int) (ad2 ad3 : Option Addr) (n2 n3 c2 c3 : Nat) (w : World) (hl2 : n2 = ms.length) (hl3 : n3 = ss.length) (h0 : 0 ≤ own) (hs : ∀ x ∈ ss, 0 ≤ x ∧ x < 18446744073709551616) (h2 : At w ad2 (ms.map Value.bool)) (h3 : At w ad3 (ss.map U)) :
    Calls Try.prog 7 #[.int .u64 own, .bool f, .slice ad2 n2 c2, .slice ad3 n3 c3] w fun e w' => e = .returned (.bool true) ∧ w.grownBy w' none := by
  subst hl2 hl3
  exact flags_true own f ms ss ad2 ad3 c2 c3 w h0 hs h2 h3
end Go.Proofs.Ytndgodpbikgnaaa.oo
