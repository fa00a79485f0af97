/-
  The landed log: what New answers. Condition: the table of bounds lies in its variable as the program's text has it.
-/
import Derived.Test.YtfjjmlmkpdpdfaaDoorUeC
import Derived.Test.YtfjjmlmkpdpdfaaDoorUdO
namespace Go.Proofs.YtfjjmlmkpdpdfaaDoor.ud
open Go Go.ChangeShapes Go.WideShapes Go.ChangeAt Go.RowKit
open Go.Proofs.YtfjjmlmkpdpdfaaDoor.tt (Cfg Tab trip CfgAt cfg_at)
open Go.Proofs.YtfjjmlmkpdpdfaaDoor.pp (RMem Mem grown_refl grown_trans grown_alloc getW inn setW)
set_option linter.unusedVariables false
set_option maxRecDepth 1000000

theorem new_nil (c : Cfg) (core : Int) (w : World) : Calls Tryd.prog 9 #[.agg c.cells, .pointer none, .int .i64 core] w fun e w' => e = .returned (.tuple #[.pointer none, .int .i64 1]) ∧ w.grownBy w' none := by
  unfold Cfg.cells
  go_enter Tryd.func9, Tryd.ntmps9
  go_wp2
  go_ret2
  exact ⟨rfl, grown_alloc (grown_refl _ _) _⟩
theorem new_no (c : Cfg) (core z : Int) (w : World) (mb : Nat) (hz : z ≠ 0) (hL : ∀ w1, w.grownBy w1 none → Calls Tryd.prog 33 #[.agg c.cells, .int .i64 core] w1 fun e w' => e = trip 0 0 z ∧ w1.grownBy w' none) : Calls Tryd.prog 9 #[.agg c.cells, .pointer (some ⟨mb, 0, none⟩), .int .i64 core] w fun e w' => e = .returned (.tuple #[.pointer none, .int .i64 z]) ∧ w.grownBy w' none := by
  have hg0 : w.grownBy (w.alloc (.cells c.cells 30)) none := grown_alloc (grown_refl _ _) _
  have HL := Lib.hid (hL _ hg0)
  have hz' : (z != 0) = true := by simp [hz]
  obtain ⟨c0, c1, c2, c3, c4, c5, c6, c7⟩ := cfg_at w c
  have HG0 := Lib.hid hg0
  clear hL hz hg0
  unfold Cfg.cells trip at *
  go_enter Tryd.func9, Tryd.ntmps9
  go_wp2_with (go_at_call 33; ((with_reducible refine HL.out.mono ?_); rintro e w1 ⟨rfl, hg1⟩; have HG1 := Lib.hid hg1; clear hg1))
  go_ret2
  exact ⟨rfl, grown_trans HG0.out HG1.out⟩
theorem new_many (c : Cfg) (core x y : Int) (w : World) (mb : Nat) (mv : Value) (bs : List (List Int)) (hM : Mem w mb mv bs) (hb : (bs.length : Int) ≠ c.bl) (hL : ∀ w1, w.grownBy w1 none → Calls Tryd.prog 33 #[.agg c.cells, .int .i64 core] w1 fun e w' => e = trip x y 0 ∧ w1.grownBy w' none) : Calls Tryd.prog 9 #[.agg c.cells, .pointer (some ⟨mb, 0, none⟩), .int .i64 core] w fun e w' => e = .returned (.tuple #[.pointer none, .int .i64 2]) ∧ w.grownBy w' none := by
  have hg0 : w.grownBy (w.alloc (.cells c.cells 30)) none := grown_alloc (grown_refl _ _) _
  have HL := Lib.hid (hL _ hg0)
  have hz' : ((bs.length : Int) != c.bl) = true := by simp [hb]
  have HC : Hid (∀ w1, (w.alloc (.cells c.cells 30)).grownBy w1 none → CfgAt w1 w.heap.size c) := Lib.hid fun w1 h => (cfg_at w c).grown h
  obtain ⟨c0, c1, c2, c3, c4, c5, c6, c7⟩ := cfg_at w c
  have HG0 := Lib.hid hg0
  have HM := Lib.hid hM
  clear hL hb hg0 hM
  unfold Cfg.cells trip at *
  go_enter Tryd.func9, Tryd.ntmps9
  go_upto_region 6 with (go_at_call 33; ((with_reducible refine HL.out.mono ?_); rintro e w1 ⟨rfl, hg1⟩; have HG1 := Lib.hid hg1; clear hg1))
  clear c0 c1 c2 c3 c4 c5 c6 c7
  obtain ⟨c0, c1, c2, c3, c4, c5, c6, c7⟩ := HC.out _ HG1.out
  have HM1 := Lib.hid (HM.out.kept (grown_trans HG0.out HG1.out))
  go_region_held3 (fun w' => w'.cell? ⟨w.heap.size, 3, none⟩ = some (.int .i64 c.bl))
    (first | exact c3)
    (first | (go_at_call 35; ((with_reducible refine (pp.blocks_any mb mv bs _ (mem_drew HM1.out)).mono ?_); rintro e w2 ⟨rfl, rfl⟩)))
  go_wp2_with fail
  go_ret2
  exact ⟨rfl, grown_trans HG0.out (grown_trans HG1.out (grown_drewN _ 1))⟩
theorem newX : NewX := by
  intro c core w mb mv bs hT hM hl hz
  unfold newE at *
  by_cases h1 : c.may
  · rw [if_neg (by simp [h1])] at *
    by_cases h2 : core < 0 ∨ c.co ≤ core
    · rw [if_pos h2]
      exact new_no c core 5 w mb (by decide) fun w1 hg => tt.log_out c core w1 (hT.grown hg) h1 h2
    · rw [if_neg h2] at *
      by_cases h3 : (bs.length : Int) = c.bl
      · rw [if_neg (by simp [h3])] at hz; exact absurd rfl hz
      · rw [if_pos h3]
        exact new_many c core _ _ w mb mv bs hM h3 fun w1 hg => tt.log_in c core w1 (hT.grown hg) h1 (by omega) (by omega)
  · rw [if_pos h1]
    exact new_no c core 2 w mb (by decide) fun w1 hg => tt.log_no c core w1 (hT.grown hg) h1
theorem new_ok (c : Cfg) (core : Int) (w : World) (mb : Nat) (mv : Value) (bs : List (List Int)) (F : Nat) (hT : Tab w) (hM : Mem w mb mv bs) (hm : c.may) (h0 : 0 ≤ core) (h1 : core < c.co) (hb : (bs.length : Int) = c.bl) (hF : c.data + core * c.lo = F) :
    Calls Tryd.prog 9 #[.agg c.cells, .pointer (some ⟨mb, 0, none⟩), .int .i64 core] w fun e w' => ∃ lb, e = .returned (.tuple #[.pointer (some ⟨lb, 0, none⟩), .int .i64 0]) ∧ LogAt w' lb c mb F 0 ∧ w.heap.size ≤ lb ∧ w.grownBy w' none := by
  have hg0 : w.grownBy (w.alloc (.cells c.cells 30)) none := grown_alloc (grown_refl _ _) _
  have hL := tt.log_in c core (w.alloc (.cells c.cells 30)) (hT.grown hg0) hm h0 h1
  rw [hF] at hL
  have HL := Lib.hid hL
  have hz' : ((bs.length : Int) != c.bl) = false := by simp [hb]
  have hlo := hm.fits.lo
  have HLO := Lib.hid hlo
  have HC : Hid (∀ w1, (w.alloc (.cells c.cells 30)).grownBy w1 none → CfgAt w1 w.heap.size c) := Lib.hid fun w1 h => (cfg_at w c).grown h
  obtain ⟨c0, c1, c2, c3, c4, c5, c6, c7⟩ := cfg_at w c
  have HG0 := Lib.hid hg0
  have HM := Lib.hid hM
  clear hL hb hg0 hM hT hF hm h0 h1
  obtain ⟨h1, h4⟩ := hlo
  unfold Cfg.cells trip at *
  go_enter Tryd.func9, Tryd.ntmps9
  go_upto_region 6 with (go_at_call 33; ((with_reducible refine HL.out.mono ?_); rintro e w1 ⟨rfl, hg1⟩; have HG1 := Lib.hid hg1; clear hg1))
  clear c0 c1 c2 c3 c4 c5 c6 c7
  have HM1 := Lib.hid (HM.out.kept (grown_trans HG0.out HG1.out))
  obtain ⟨c0, c1, c2, c3, c4, c5, c6, c7⟩ := HC.out _ HG1.out
  go_region_held3 (fun w' => w'.cell? ⟨w.heap.size, 3, none⟩ = some (.int .i64 c.bl))
    (first | exact c3)
    (first | (go_at_call 35; ((with_reducible refine (pp.blocks_any mb mv bs _ (mem_drew HM1.out)).mono ?_); rintro e w2 ⟨rfl, rfl⟩)))
  clear c0 c1 c2 c3 c4 c5 c6 c7
  have HG2 : Hid ((w.alloc (.cells c.cells 30)).grownBy w1.drew none) := Lib.hid (grown_trans HG1.out (show w1.grownBy w1.drew none from ⟨rfl, rfl, rfl, Nat.le_refl _, fun _ _ _ => rfl⟩))
  generalize w1.drew = w2 at HG2 ⊢
  obtain ⟨c0, c1, c2, c3, c4, c5, c6, c7⟩ := HC.out _ HG2.out
  go_wp2_with fail
  go_ret2
  have e : c.lo * 16 / 2 = 8 * c.lo := by omega
  rw [e]
  refine ⟨_, rfl, ⟨heap_alloc_new _ _⟩, (grown_trans HG0.out HG2.out).size, grown_alloc (grown_trans HG0.out HG2.out) _⟩
/-- The landed log over its memory, as the laws ask of it. -/
structure Lg (w0 : World) (c : Cfg) (F mb : Nat) (mv : Value) (lb : Nat) (w : World) (P : Nat → Prop) (es : List (Int × Int)) (bs : List (List Int)) : Prop where
  old : w0.grownBy w none
  pis : P = fun k => k = lb ∨ k = mb ∨ mv.ownBlock = some k
  log : LogAt w lb c mb F es.length
  mem : Mem w mb mv bs
  new : w0.heap.size ≤ lb
  newm : ∀ k, mv.ownBlock = some k → w0.heap.size ≤ k
  len : (es.length : Int) ≤ 8 * c.lo
  data : c.data ≤ F
  most : (F : Int) + c.lo ≤ (bs.length : Int)
  few : bs.length ≤ 256
  stands : Stands F es bs
section
variable {w0 : World} {c : Cfg} {F mb : Nat} {mv : Value} {lb : Nat} {w w' : World} {P P' : Nat → Prop} {es es' : List (Int × Int)} {bs bs' : List (List Int)}
theorem Lg.grown (h : Lg w0 c F mb mv lb w P es bs) (hg : w.grownBy w' none) : Lg w0 c F mb mv lb w' P es bs := ⟨grown_trans h.old hg, h.pis, h.log.grown hg, h.mem.kept hg, h.new, h.newm, h.len, h.data, h.most, h.few, h.stands⟩
/-- A call that writes the log's block and the memory's. -/
theorem Lg.next (h : Lg w0 c F mb mv lb w P es bs) (hl : LogAt w' lb c mb F es'.length) (hm : Mem w' mb mv bs') (hf : Fr w w' (fun k => k = lb ∨ mv.ownBlock = some k)) (hn : (es'.length : Int) ≤ 8 * c.lo) (hb : bs'.length = bs.length) (hs : Stands F es' bs') : Lg w0 c F mb mv lb w' P es' bs' ∧ Nx w w' P P := by
  refine ⟨⟨?_, h.pis, hl, hm, h.new, h.newm, hn, h.data, by rw [hb]; exact h.most, by rw [hb]; exact h.few, hs⟩, ⟨⟨hf.os, hf.tape, hf.output, hf.size, fun k hk hp => hf.block k hk fun e => hp ?_⟩, fun k hk => .inl hk⟩⟩
  · refine ⟨hf.os.trans h.old.os, hf.tape.trans h.old.tape, hf.output.trans h.old.output, Nat.le_trans h.old.size hf.size, fun k hk hn => (hf.block k (Nat.lt_of_lt_of_le hk h.old.size) fun e => ?_).trans (h.old.block k hk hn)⟩
    rcases e with e | e
    · have := h.new; omega
    · have := h.newm k e; omega
  · rw [h.pis]
    rcases e with e | e
    · exact .inl e
    · exact .inr (.inr e)
theorem Lg.lt (h : Lg w0 c F mb mv lb w P es bs) : ∀ k, P k → k < w.heap.size := fun k hk => by
  rw [h.pis] at hk
  rcases hk with rfl | rfl | hk
  · exact h.log.lt
  · exact h.mem.lt
  · exact mem_lt0 h.mem k hk
theorem Lg.row (h : Lg w0 c F mb mv lb w P es bs) : ∀ k, P k → ∀ cs f, w.heap[k]? ≠ some (.cells cs 56 f) := fun k hk cs f e => by
  rw [h.pis] at hk
  rcases hk with rfl | rfl | hk
  · exact pp.tyne e h.log.blk (by decide) rfl
  · exact pp.tyne e h.mem.blk (by decide) rfl
  · obtain ⟨cur, hc⟩ := mem_type h.mem k hk
    exact pp.tyne e hc (by decide) rfl
end
end Go.Proofs.YtfjjmlmkpdpdfaaDoor.ud
