/-
  The law UndoOwn returns true: the walk. Condition: the table of bounds lies in its variable as the program's text has it; that the script lies where the argument says, and its addresses are words; the contracts of the log.
-/
import Derived.Test.YtfjjmlmkpdpdfaaDoorUdI
import Derived.Test.YtfjjmlmkpdpdfaaDoorUdS
namespace Go.Proofs.YtfjjmlmkpdpdfaaDoor.ud
open Go Go.ChangeShapes Go.WideShapes Go.ChangeAt Go.RowKit
open Go.Proofs.YtfjjmlmkpdpdfaaDoor.tt (Cfg Tab trip CfgAt cfg_at data_yes)
open Go.Proofs.YtfjjmlmkpdpdfaaDoor.pp (RMem Mem grown_refl grown_trans grown_alloc setW getW inn inb row zero setW_length)
set_option linter.unusedVariables false
set_option maxRecDepth 1000000

/-- A call of a script: its kind, its index, its address, its word. -/
structure OpX where
  kd : Int
  i : Int
  a : Int
  o : Int
deriving Inhabited
def OpsAt (w : World) (ad : Option Addr) (os : List OpX) : Prop := ∀ (k : Nat) (q : OpX), os[k]? = some q → ∃ g off, ad = some ⟨g, off, none⟩ ∧ w.cell? ⟨g, off + k * 4, none⟩ = some (.int .i64 q.kd) ∧ w.cell? ⟨g, off + k * 4 + 1, none⟩ = some (.int .i64 q.i) ∧ w.cell? ⟨g, off + k * 4 + 2, none⟩ = some (.int .u32 q.a) ∧ w.cell? ⟨g, off + k * 4 + 3, none⟩ = some (.int .u32 q.o)
def Rng (os : List OpX) : Prop := ∀ x ∈ os, 0 ≤ x.a ∧ x.a < 4294967296
theorem OpsAt.grown {w w' : World} {ad : Option Addr} {os : List OpX} (h : OpsAt w ad os) (hg : w.grownBy w' none) : OpsAt w' ad os := fun k q hk => by
  obtain ⟨g, off, e, h0, h1, h2, h3⟩ := h k q hk
  exact ⟨g, off, e, hg.cell h0 (by simp), hg.cell h1 (by simp), hg.cell h2 (by simp), hg.cell h3 (by simp)⟩

theorem putE_other (bs : List (List Int)) (F k j : Nat) (x : Int × Int) (h : F + k / 8 ≠ j) : (putE bs F k x).getD j [] = bs.getD j [] := by
  unfold putE
  rw [put1_other _ _ _ _ _ h, put1_other _ _ _ _ _ h]
/-- What holds of a log that writes its own blocks alone. -/
structure Ow (S : World → (Nat → Prop) → List (Int × Int) → List (List Int) → Prop) (n F L : Nat) (w : World) (P : Nat → Prop) (es : List (Int × Int)) (bs : List (List Int)) : Prop where
  st : S w P es bs
  size : bs.length = n
  rest : ∀ i, i < n → i < F ∨ F + L ≤ i → bs.getD i [] = zero
section
variable {w0 : World} {c : Cfg} {F mb : Nat} {mv : Value} {lb : Nat} {S : World → (Nat → Prop) → List (Int × Int) → List (List Int) → Prop} {n L : Nat} {w w' : World} {P P' : Nat → Prop} {es es' : List (Int × Int)} {bs bs' : List (List Int)}
theorem Ow.grown (I : Impl w0 c F mb mv lb S) (h : Ow S n F L w P es bs) (hg : w.grownBy w' none) : Ow S n F L w' P es bs := ⟨I.grown h.st hg, h.size, h.rest⟩
theorem Ow.add (I : Impl w0 c F mb mv lb S) (h : Ow S n F L w P es bs) (hL : c.lo = L) (a o : Int) (hs : S w' P' (addL c es a o) (addB c F es bs a o)) : Ow S n F L w' P' (addL c es a o) (addB c F es bs a o) := by
  refine ⟨hs, ?_, ?_⟩
  · unfold addB; split
    · rw [putE_len]; exact h.size
    · exact h.size
  · intro i hi hr
    unfold addB
    by_cases hE : addE c es a = 0
    · rw [if_pos hE]
      have hl := I.len h.st
      have hne : (es.length : Int) ≠ 8 * c.lo := by
        intro e
        have h1 := addE_zero hE
        unfold addE at hE
        rw [if_neg (by simp [h1]), if_pos e] at hE
        omega
      rw [putE_other _ _ _ _ _ (by omega)]
      exact h.rest i hi hr
    · rw [if_neg hE]; exact h.rest i hi hr
end

set_option maxHeartbeats 1000000 in
theorem own_long (HWO : WorksOk) (c : Cfg) (core : Int) (ad1 : Option Addr) (len1 cap1 : Nat) (w : World) (hT : Tab w) (h : 300 < len1) : Calls Tryd.prog 6 #[.agg c.cells, .int .i64 core, .slice ad1 len1 cap1] w fun e w' => e = .returned (.bool true) ∧ w.grownBy w' none := by
  have hg0 : w.grownBy (w.alloc (.cells c.cells 30)) none := grown_alloc (grown_refl _ _) _
  have HW := Lib.hid (HWO _ (hT.grown hg0))
  have HG0 := Lib.hid hg0
  clear hT hg0
  unfold Cfg.cells at *
  have hd : decide ((300 : Int) < (len1 : Int)) = true := by simp; omega
  clear h
  go_enter Tryd.func6, Tryd.ntmps6
  go_wp2_with (go_at_call 11; ((with_reducible refine HW.out.mono ?_); rintro e w3 ⟨rfl, hg3⟩; have HG3 := Lib.hid hg3; clear hg3))
  go_ret
  exact ⟨rfl, grown_trans HG0.out HG3.out⟩
set_option maxHeartbeats 1000000 in
theorem own_nomem (HWO : WorksOk) (c : Cfg) (core : Int) (ad1 : Option Addr) (len1 cap1 : Nat) (w : World) (hT : Tab w) (h1 : len1 ≤ 300) (hb : c.bl < 1 ∨ 256 < c.bl) : Calls Tryd.prog 6 #[.agg c.cells, .int .i64 core, .slice ad1 len1 cap1] w fun e w' => e = .returned (.bool true) ∧ w.grownBy w' none := by
  have hd : decide ((300 : Int) < (len1 : Int)) = false := by simp; omega
  have hg0 : w.grownBy (w.alloc (.cells c.cells 30)) none := grown_alloc (grown_refl _ _) _
  have HW := Lib.hid (HWO _ (hT.grown hg0))
  have HM := Lib.hid (pp.new_err c.bl (w.alloc (.cells c.cells 30)) hb)
  obtain ⟨c0, c1, c2, c3, c4, c5, c6, c7⟩ := cfg_at w c
  have HG0 := Lib.hid hg0
  clear hT hg0 hb h1
  unfold Cfg.cells at *
  go_enter Tryd.func6, Tryd.ntmps6
  go_wp2_with (first
    | (go_at_call 8; ((with_reducible refine HM.out.mono ?_); rintro e w2 ⟨rfl, rfl⟩))
    | (go_at_call 11; ((with_reducible refine HW.out.mono ?_); rintro e w3 ⟨rfl, hg3⟩; have HG3 := Lib.hid hg3; clear hg3)))
  go_ret
  exact ⟨rfl, grown_trans HG0.out HG3.out⟩
set_option maxHeartbeats 1000000 in
theorem own_nonew (HWO : WorksOk) (HNN : NewNo) (c : Cfg) (core : Int) (ad1 : Option Addr) (len1 cap1 : Nat) (w : World) (hT : Tab w) (h1 : len1 ≤ 300) (hb1 : 1 ≤ c.bl) (hb2 : c.bl ≤ 256) (hok : ¬ (c.may ∧ 0 ≤ core ∧ core < c.co)) : Calls Tryd.prog 6 #[.agg c.cells, .int .i64 core, .slice ad1 len1 cap1] w fun e w' => e = .returned (.bool true) ∧ w.grownBy w' none := by
  have hd : decide ((300 : Int) < (len1 : Int)) = false := by simp; omega
  have hg0 : w.grownBy (w.alloc (.cells c.cells 30)) none := grown_alloc (grown_refl _ _) _
  obtain ⟨n, hn⟩ : ∃ n : Nat, c.bl = n := ⟨c.bl.toNat, by omega⟩
  have HW : Hid (∀ w', (w.alloc (.cells c.cells 30)).grownBy w' none → _) := Lib.hid fun w' h => HWO w' ((hT.grown hg0).grown h)
  have HM := Lib.hid (pp.new_ok n (w.alloc (.cells c.cells 30)) (by omega) (by omega))
  have HNW : Hid (∀ w' mb mv, (w.alloc (.cells c.cells 30)).grownBy w' none → Mem w' mb mv (List.replicate n zero) → _) := Lib.hid fun w' mb mv hg hM => HNN c core w' mb mv _ ((hT.grown hg0).grown hg) hM (by simp; omega) (fun h => hok ⟨h.1, h.2.1, h.2.2.1⟩)
  rw [← hn] at HM
  have HCA : Hid (∀ w', (w.alloc (.cells c.cells 30)).grownBy w' none → _) := Lib.hid fun w' h => (cfg_at w c).grown h
  obtain ⟨c0, c1, c2, c3, c4, c5, c6, c7⟩ := cfg_at w c
  have HG0 := Lib.hid hg0
  clear hT hg0 hb1 hb2 h1 hok hn
  unfold Cfg.cells at *
  go_enter Tryd.func6, Tryd.ntmps6
  go_wp2_with (first
    | (go_at_call 8; ((with_reducible refine HM.out.mono ?_); rintro e w2 ⟨mb, mv, rfl, hm2, hg2, hb2, hv2⟩; have HM2 := Lib.hid hm2; have HG2 := Lib.hid hg2; clear hm2 hb2 hv2 c0 c1 c2 c3 c4 c5 c6 c7; obtain ⟨c0, c1, c2, c3, c4, c5, c6, c7⟩ := HCA.out _ hg2; clear hg2))
    | (go_at_call 9; ((with_reducible refine (HNW.out _ _ _ HG2.out HM2.out).mono ?_); rintro e w4 ⟨z, hz, rfl, hg4⟩; have hz' : (z != 0) = true := (by simp [hz]); have HG4 := Lib.hid (grown_trans HG2.out hg4); clear hg4))
    | (go_at_call 11; ((with_reducible refine (HW.out _ HG4.out).mono ?_); rintro e w3 ⟨rfl, hg3⟩; have HG3 := Lib.hid (grown_trans HG4.out hg3); clear hg3)))
  go_ret
  exact ⟨rfl, grown_trans HG0.out HG3.out⟩
end Go.Proofs.YtfjjmlmkpdpdfaaDoor.ud
