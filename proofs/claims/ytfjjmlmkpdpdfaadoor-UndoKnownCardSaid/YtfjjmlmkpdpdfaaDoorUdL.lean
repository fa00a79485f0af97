/-
  The law UndoTells returns true: what stands in memory; the walk's ends. Condition: the table of bounds lies in its variable as the program's text has it; that the script lies where the argument says, and its addresses are words; the contracts of the log.
-/
import Derived.Test.YtfjjmlmkpdpdfaaDoorUdK
namespace Go.Proofs.YtfjjmlmkpdpdfaaDoor.ud
open Go Go.ChangeShapes Go.WideShapes Go.ChangeAt Go.RowKit
open Go.Proofs.YtfjjmlmkpdpdfaaDoor.tt (Cfg Tab trip CfgAt cfg_at data_yes)
open Go.Proofs.YtfjjmlmkpdpdfaaDoor.pp (RMem Mem grown_refl grown_trans grown_alloc setW getW inn inb row zero setW_length)
open Go.Proofs.YtfjjmlmkpdpdfaaDoor.sl (Sl flat)
set_option linter.unusedVariables false
set_option maxRecDepth 1000000

theorem atV_in (es : List (Int × Int)) (i : Nat) (x : Int × Int) (hx : es[i]? = some x) : atV es (i : Int) = .tuple #[.int .u32 x.1, .int .u32 x.2, .int .i64 0] := by
  have hi : i < es.length := (List.getElem?_eq_some_iff.1 hx).1
  unfold atV
  rw [if_pos (by omega), show ((i : Int)).toNat = i by omega, List.getD_eq_getElem?_getD, hx]
  rfl

/-- What holds in the law: the log holds es, what was added lies in v. -/
structure Tl (S : World → (Nat → Prop) → List (Int × Int) → List (List Int) → Prop) (n F B : Nat) (w : World) (P : Nat → Prop) (es : List (Int × Int)) (bs : List (List Int)) (v : Value) : Prop where
  st : S w P es bs
  size : bs.length = n
  sl : Sl w 71 2 v es.length (flat et es)
  off : ∀ k, v.ownBlock = some k → ¬ P k ∧ B ≤ k
  stands : Stands F es bs
section
variable {w0 : World} {c : Cfg} {F mb : Nat} {mv : Value} {lb : Nat} {S : World → (Nat → Prop) → List (Int × Int) → List (List Int) → Prop} {n L : Nat} {w w' w1 w2 : World} {P P' : Nat → Prop} {es es' : List (Int × Int)} {bs bs' : List (List Int)} {v v' : Value}
theorem Tl.grown (I : Impl w0 c F mb mv lb S) (h : Tl S n F w0.heap.size w P es bs v) (hg : w.grownBy w' none) : Tl S n F w0.heap.size w' P es bs v := ⟨I.grown h.st hg, h.size, h.sl.grown hg, h.off, h.stands⟩
/-- A call of the log leaves what lies in v. -/
theorem Tl.call (h : Tl S n F w0.heap.size w P es bs v) (hx : Nx w w' P P') : Sl w' 71 2 v es.length (flat et es) ∧ ∀ k, v.ownBlock = some k → ¬ P' k ∧ w0.heap.size ≤ k :=
  ⟨h.sl.of_block fun g hg => hx.fr.block g (h.sl.lt g hg) (h.off g hg).1, fun k hk => ⟨fun hp => by rcases hx.nx k hp with h1 | h1; exact (h.off k hk).1 h1; have := h.sl.lt k hk; omega, (h.off k hk).2⟩⟩
/-- Where another entry is laid behind v. -/
theorem tl_append (I : Impl w0 c F mb mv lb S) (hs : S w P es' bs') (hl : Sl w 71 2 v es.length (flat et es)) (ho : ∀ k, v.ownBlock = some k → ¬ P k ∧ w0.heap.size ≤ k) (hg1 : w.grownBy w1 none) (hg2 : w1.grownBy w2 v.ownBlock) (hn : sl.Next w1 w2 v v') : S w2 P es' bs' ∧ ∀ k, v'.ownBlock = some k → ¬ P k ∧ w0.heap.size ≤ k := by
  refine ⟨I.aside (I.grown hs hg1) (Fr.of_grown (p := fun k => v.ownBlock = some k) hg2 fun k e => e) fun k hk => ⟨(ho k hk).1, (ho k hk).2, ?_⟩, fun k hk => ?_⟩
  · obtain ⟨cur, hc⟩ := hl.type k hk
    intro cs f e
    exact pp.tyne ((hg1.block k (hl.lt k hk) (by simp)).trans hc) e (by decide) rfl
  · rcases hn with h1 | h1
    · exact ho k (by rw [← h1]; exact hk)
    · have h2 := h1 k hk
      have h3 := hg1.size
      have h4 := (I.old hs).size
      exact ⟨fun hp => by have := I.lt hs k hp; omega, by omega⟩
end
set_option maxHeartbeats 1000000 in
theorem tells_long (HWO : WorksOk) (c : Cfg) (core : Int) (ad1 : Option Addr) (len1 cap1 : Nat) (w : World) (hT : Tab w) (h : 300 < len1) : Calls Tryd.prog 7 #[.agg c.cells, .int .i64 core, .slice ad1 len1 cap1] w fun e w' => e = .returned (.bool true) ∧ w.grownBy w' none := by
  have hg0 : w.grownBy (w.alloc (.cells c.cells 30)) none := grown_alloc (grown_refl _ _) _
  have HW := Lib.hid (HWO _ (hT.grown hg0))
  have HG0 := Lib.hid hg0
  clear hT hg0
  unfold Cfg.cells at *
  have hd : decide ((300 : Int) < (len1 : Int)) = true := by simp; omega
  clear h
  go_enter Tryd.func7, Tryd.ntmps7
  go_wp2_with (go_at_call 11; ((with_reducible refine HW.out.mono ?_); rintro e w3 ⟨rfl, hg3⟩; have HG3 := Lib.hid hg3; clear hg3))
  go_ret
  exact ⟨rfl, grown_trans HG0.out HG3.out⟩
set_option maxHeartbeats 1000000 in
theorem tells_nomem (HWO : WorksOk) (c : Cfg) (core : Int) (ad1 : Option Addr) (len1 cap1 : Nat) (w : World) (hT : Tab w) (h1 : len1 ≤ 300) (hb : c.bl < 1 ∨ 256 < c.bl) : Calls Tryd.prog 7 #[.agg c.cells, .int .i64 core, .slice ad1 len1 cap1] w fun e w' => e = .returned (.bool true) ∧ w.grownBy w' none := by
  have hd : decide ((300 : Int) < (len1 : Int)) = false := by simp; omega
  have hg0 : w.grownBy (w.alloc (.cells c.cells 30)) none := grown_alloc (grown_refl _ _) _
  have HW := Lib.hid (HWO _ (hT.grown hg0))
  have HM := Lib.hid (pp.new_err c.bl (w.alloc (.cells c.cells 30)) hb)
  obtain ⟨c0, c1, c2, c3, c4, c5, c6, c7⟩ := cfg_at w c
  have HG0 := Lib.hid hg0
  clear hT hg0 hb h1
  unfold Cfg.cells at *
  go_enter Tryd.func7, Tryd.ntmps7
  go_wp2_with (first
    | (go_at_call 8; ((with_reducible refine HM.out.mono ?_); rintro e w2 ⟨rfl, rfl⟩))
    | (go_at_call 11; ((with_reducible refine HW.out.mono ?_); rintro e w3 ⟨rfl, hg3⟩; have HG3 := Lib.hid hg3; clear hg3)))
  go_ret
  exact ⟨rfl, grown_trans HG0.out HG3.out⟩
set_option maxHeartbeats 1000000 in
theorem tells_nonew (HWO : WorksOk) (HNN : NewNo) (c : Cfg) (core : Int) (ad1 : Option Addr) (len1 cap1 : Nat) (w : World) (hT : Tab w) (h1 : len1 ≤ 300) (hb1 : 1 ≤ c.bl) (hb2 : c.bl ≤ 256) (hok : ¬ (c.may ∧ 0 ≤ core ∧ core < c.co)) : Calls Tryd.prog 7 #[.agg c.cells, .int .i64 core, .slice ad1 len1 cap1] w fun e w' => e = .returned (.bool true) ∧ w.grownBy w' none := by
  have hd : decide ((300 : Int) < (len1 : Int)) = false := by simp; omega
  have hg0 : w.grownBy (w.alloc (.cells c.cells 30)) none := grown_alloc (grown_refl _ _) _
  obtain ⟨n, hn⟩ : ∃ n : Nat, c.bl = n := ⟨c.bl.toNat, by omega⟩
  have HW : Hid (∀ w', (w.alloc (.cells c.cells 30)).grownBy w' none → _) := Lib.hid fun w' h => HWO w' ((hT.grown hg0).grown h)
  have HM := Lib.hid (pp.new_ok n (w.alloc (.cells c.cells 30)) (by omega) (by omega))
  have HNW : Hid (∀ w' mb mv, (w.alloc (.cells c.cells 30)).grownBy w' none → Mem w' mb mv (List.replicate n zero) → _) := Lib.hid fun w' mb mv hg hM => HNN c core w' mb mv _ ((hT.grown hg0).grown hg) hM (by simp; omega) (fun h => hok ⟨h.1, h.2.1, h.2.2.1⟩)
  rw [← hn] at HM
  have HCA : Hid (∀ w', (w.alloc (.cells c.cells 30)).grownBy w' none → _) := Lib.hid fun w' h => (cfg_at w c).grown h
  obtain ⟨c0, c1, c2, c3, c4, c5, c6, c7⟩ := cfg_at w c
  have HG0 := Lib.hid hg0
  clear hT hg0 hb1 hb2 h1 hok hn
  unfold Cfg.cells at *
  go_enter Tryd.func7, Tryd.ntmps7
  go_wp2_with (first
    | (go_at_call 8; ((with_reducible refine HM.out.mono ?_); rintro e w2 ⟨mb, mv, rfl, hm2, hg2, hb2, hv2⟩; have HM2 := Lib.hid hm2; have HG2 := Lib.hid hg2; clear hm2 hb2 hv2 c0 c1 c2 c3 c4 c5 c6 c7; obtain ⟨c0, c1, c2, c3, c4, c5, c6, c7⟩ := HCA.out _ hg2; clear hg2))
    | (go_at_call 9; ((with_reducible refine (HNW.out _ _ _ HG2.out HM2.out).mono ?_); rintro e w4 ⟨z, hz, rfl, hg4⟩; have hz' : (z != 0) = true := (by simp [hz]); have HG4 := Lib.hid (grown_trans HG2.out hg4); clear hg4))
    | (go_at_call 11; ((with_reducible refine (HW.out _ HG4.out).mono ?_); rintro e w3 ⟨rfl, hg3⟩; have HG3 := Lib.hid (grown_trans HG4.out hg3); clear hg3)))
  go_ret
  exact ⟨rfl, grown_trans HG0.out HG3.out⟩
end Go.Proofs.YtfjjmlmkpdpdfaaDoor.ud
