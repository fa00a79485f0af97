/-
  The landed log: what its Add answers and writes. No condition but the bounds that each theorem names.
-/
import Derived.Test.YtfjjmlmkpdpdfaaDoorUeB
namespace Go.Proofs.YtfjjmlmkpdpdfaaDoor.ud
open Go Go.ChangeShapes Go.WideShapes Go.ChangeAt Go.RowKit
open Go.Proofs.YtfjjmlmkpdpdfaaDoor.tt (Cfg Tab trip CfgAt)
open Go.Proofs.YtfjjmlmkpdpdfaaDoor.pp (RMem Mem grown_refl grown_trans grown_alloc getW inn setW)
set_option linter.unusedVariables false
set_option maxRecDepth 1000000

theorem where_err (c : Cfg) (a : Int) (w : World) (hT : Tab w) (hm : c.may) (h0 : 0 ≤ a) (h1 : a < 4294967296) : Calls Tryd.prog 31 #[.agg c.cells, .int .u32 a] w fun e w' => ∃ x y, e = trip x y (wErr c a) ∧ w.grownBy w' none := by
  unfold wErr
  by_cases h : a % 4 = 0
  · rw [if_neg (by omega)]
    by_cases h2 : c.bl ≤ a / 64
    · rw [if_pos h2]; exact (tt.where_range c a w hT hm h0 h1 h h2).mono fun e w' k => ⟨0, 0, k.1, k.2⟩
    · rw [if_neg h2]
      by_cases h3 : c.data ≤ a / 64
      · rw [if_pos h3]; exact (tt.where_log c a w hT hm h0 h1 h (by omega) h3).mono fun e w' k => ⟨0, 0, k.1, k.2⟩
      · rw [if_neg h3]; exact (tt.where_in c a w hT hm h0 h1 h (by omega) (by omega)).mono fun e w' k => ⟨_, _, k.1, k.2⟩
  · rw [if_pos h]; exact (tt.where_align c a w hT hm h0 h1 h).mono fun e w' k => ⟨0, 0, k.1, k.2⟩

section
variable {w w' : World} {b mb F n : Nat} {c : Cfg}
theorem add_err (h : LogAt w b c mb F n) (hT : Tab w) (hm : c.may) (a o : Int) (h0 : 0 ≤ a) (h1 : a < 4294967296) (he : wErr c a ≠ 0) : Calls Tryd.prog 12 #[.pointer (some ⟨b, 0, none⟩), .int .u32 a, .int .u32 o] w fun e w' => e = .returned (.int .i64 (wErr c a)) ∧ w.grownBy w' none := by
  have HL := Lib.hid (where_err c a w hT hm h0 h1)
  obtain ⟨d0, d1, d2, d3, d4, d5, d6, d7⟩ := h.plan
  have hz : (wErr c a != 0) = true := by simp [he]
  clear h hm he
  unfold Cfg.cells trip at HL
  go_enter Tryd.func12, Tryd.ntmps12
  go_wp2_with (go_at_call 31; ((with_reducible refine HL.out.mono ?_); rintro e w1 ⟨x, y, rfl, hg1⟩; have HG1 := Lib.hid hg1; clear hg1))
  go_ret
  exact ⟨rfl, HG1.out⟩
theorem add_full (h : LogAt w b c mb F n) (hT : Tab w) (hm : c.may) (a o : Int) (h0 : 0 ≤ a) (h1 : a < 4294967296) (he : wErr c a = 0) (hn : (n : Int) = 8 * c.lo) : Calls Tryd.prog 12 #[.pointer (some ⟨b, 0, none⟩), .int .u32 a, .int .u32 o] w fun e w' => e = .returned (.int .i64 7) ∧ w.grownBy w' none := by
  have HL := Lib.hid (where_err c a w hT hm h0 h1)
  rw [he] at HL
  obtain ⟨d0, d1, d2, d3, d4, d5, d6, d7⟩ := h.plan
  have H := Lib.hid h
  have HN := Lib.hid hn
  clear h hm he hn
  unfold Cfg.cells trip at HL
  go_enter Tryd.func12, Tryd.ntmps12
  go_upto_region 6 with (go_at_call 31; ((with_reducible refine HL.out.mono ?_); rintro e w1 ⟨x, y, rfl, hg1⟩; have HG1 := Lib.hid hg1; clear hg1))
  obtain ⟨c8, c9, c10, c11⟩ := (H.out.grown HG1.out).cells
  rw [← HN.out] at c10
  go_big_quiet (fail)
  go_wp2_with fail
  go_ret
  exact ⟨rfl, grown_trans HG1.out (grown_drewN _ _)⟩

/-- What the walk of Add keeps: the places at q, the words at p, the memory behind j of them. -/
structure Ad2 (w w' : World) (b mb : Nat) (mv : Value) (p q : Nat) (X : Int) (Y wv : Nat → Int) (pt : Nat → List (List Int)) (j : Nat) : Prop where
  gr : w.grownBy w' mv.ownBlock
  mem : Mem w' mb mv (pt j)
  pl : w'.heap[q]? = some (.cells #[.int .i64 X, .int .i64 (Y 0), .int .i64 X, .int .i64 (Y 1)] 81 (0, 0))
  wd : w'.heap[p]? = some (.cells #[.int .u32 (wv 0), .int .u32 (wv 1)] 71 (0, 0))
theorem Ad2.cells {p q j : Nat} {mv : Value} {X : Int} {Y wv : Nat → Int} {pt : Nat → List (List Int)} (h : Ad2 w w' b mb mv p q X Y wv pt j) (i : Nat) (hi : i < 2) : w'.cell? ⟨q, i * 2, none⟩ = some (.int .i64 X) ∧ w'.cell? ⟨q, i * 2 + 1, none⟩ = some (.int .i64 (Y i)) ∧ w'.cell? ⟨p, i, none⟩ = some (.int .u32 (wv i)) := by
  obtain rfl | rfl : i = 0 ∨ i = 1 := by omega
  all_goals simp [World.cell?, h.pl, h.wd]
theorem Ad2.log {p q j : Nat} {mv : Value} {X : Int} {Y wv : Nat → Int} {pt : Nat → List (List Int)} (h : Ad2 w w' b mb mv p q X Y wv pt j) (hl : LogAt w b c mb F n) (hb : mv.ownBlock ≠ some b) : LogAt w' b c mb F n := ⟨(h.gr.block b hl.lt (fun e => hb e.symm)).trans hl.blk⟩
theorem Ad2.next {w'' : World} {p q j : Nat} {mv : Value} {X : Int} {Y wv : Nat → Int} {pt : Nat → List (List Int)} (h : Ad2 w w' b mb mv p q X Y wv pt j) (hg : w'.grownBy w'' mv.ownBlock) (hm : Mem w'' mb mv (pt (j + 1))) (hp : mv.ownBlock ≠ some p) (hq : mv.ownBlock ≠ some q) : Ad2 w w'' b mb mv p q X Y wv pt (j + 1) :=
  ⟨grown_trans h.gr hg, hm, (hg.block q (Array.getElem?_eq_some_iff.1 h.pl).1 (fun e => hq e.symm)).trans h.pl, (hg.block p (Array.getElem?_eq_some_iff.1 h.wd).1 (fun e => hp e.symm)).trans h.wd⟩
theorem mem_type {mv : Value} {bs : List (List Int)} (hM : Mem w mb mv bs) (k : Nat) (hk : mv.ownBlock = some k) : ∃ cur, w.heap[k]? = some (.cells cur 74 (0, 0)) := by
  obtain ⟨ps, h1, h2, h3⟩ := hM.sl
  rcases h1 with ⟨hv, _⟩ | ⟨g, off, cap, cur, hv, hc, _⟩
  · rw [hv] at hk; cases hk
  · rw [hv] at hk; cases hk; exact ⟨cur, hc⟩
theorem mem_lt0 {mv : Value} {bs : List (List Int)} (h : Mem w mb mv bs) (k : Nat) (hk : mv.ownBlock = some k) : k < w.heap.size := by
  obtain ⟨cur, hc⟩ := mem_type h k hk
  exact (Array.getElem?_eq_some_iff.1 hc).1
theorem mem_drew {mv : Value} {bs : List (List Int)} (h : Mem w mb mv bs) : Mem w.drew mb mv bs := h.kept ⟨rfl, rfl, rfl, Nat.le_refl _, fun _ _ _ => rfl⟩
theorem grown_undrew {own : Option Nat} (h : w.drew.grownBy w' own) : w.grownBy w' own := ⟨h.os, h.tape, h.output, h.size, h.block⟩
theorem log_apart {mv : Value} {bs : List (List Int)} (h : LogAt w b c mb F n) (hM : Mem w mb mv bs) : mv.ownBlock ≠ some b := fun e => by
  obtain ⟨cur, hc⟩ := mem_type hM b e
  exact pp.tyne hc h.blk (by decide) rfl
/-- The memory behind a store into the log. -/
theorem mem_log {mv : Value} {bs : List (List Int)} (h : LogAt w b c mb F n) (hM : Mem w mb mv bs) (hg : w.grownBy w' (some b)) : Mem w' mb mv bs :=
  mem_aside (P := fun k => k = b) hM (Fr.of_grown hg fun k hk => by cases hk; rfl) (fun e => by have := hM.blk; rw [e] at this; exact pp.tyne this h.blk (by decide) rfl) (fun k hk e => log_apart h hM (by rw [hk, e])) (fun k e cs f h1 => by subst e; exact pp.tyne h1 h.blk (by decide) rfl)

set_option maxHeartbeats 1600000 in
theorem add_ok (h : LogAt w b c mb F n) {mv : Value} {bs : List (List Int)} (hM : Mem w mb mv bs) (hT : Tab w) (hm : c.may) (a o : Int) (h0 : 0 ≤ a) (h1 : a < 4294967296) (he : wErr c a = 0) (hn : (n : Int) < 8 * c.lo) (hF : F ≤ 256) (hb : F + n / 8 < bs.length) : Calls Tryd.prog 12 #[.pointer (some ⟨b, 0, none⟩), .int .u32 a, .int .u32 o] w fun e w' => e = .returned (.int .i64 0) ∧ LogAt w' b c mb F (n + 1) ∧ Mem w' mb mv (putE bs F n (a, o)) ∧ Fr w w' (fun k => k = b ∨ mv.ownBlock = some k) := by
  have hlo := hm.fits.lo
  have hn32 : n < 32 := by omega
  have HL := Lib.hid (where_err c a w hT hm h0 h1)
  rw [he] at HL
  have HAP := Lib.hid (log_apart h hM)
  have HP : Hid (∀ w1, w.grownBy w1 none → _) := Lib.hid fun w1 hg => places_any (h.grown hg) n hF hn32
  obtain ⟨wv, hw0, hw1⟩ : ∃ wv : Nat → Int, wv 0 = a ∧ wv 1 = o := ⟨fun j => if j = 0 then a else o, rfl, rfl⟩
  obtain ⟨X, hX⟩ : ∃ X : Int, ((F + n / 8 : Nat) : Int) = X := ⟨_, rfl⟩
  obtain ⟨Y, hY⟩ : ∃ Y : Nat → Int, ∀ j, ((n % 8 * 2 + j : Nat) : Int) = Y j := ⟨fun j => ((n % 8 * 2 + j : Nat) : Int), fun _ => rfl⟩
  obtain ⟨pt, hpt0, hpt1, hpt2⟩ : ∃ pt : Nat → List (List Int), pt 0 = bs ∧ pt 1 = put1 bs (F + n / 8) (n % 8 * 2) a ∧ pt 2 = putE bs F n (a, o) := ⟨fun j => if j = 0 then bs else if j = 1 then put1 bs (F + n / 8) (n % 8 * 2) a else putE bs F n (a, o), rfl, rfl, rfl⟩
  have HS : Hid (∀ w1 j, j < 2 → Mem w1 mb mv (pt j) → Calls Tryd.prog 28 #[.pointer (some ⟨mb, 0, none⟩), .int .i64 X, .int .i64 (Y j), .int .u32 (wv j)] w1 fun e w' => e = .returned (.int .i64 0) ∧ Mem w' mb mv (pt (j + 1)) ∧ w1.grownBy w' mv.ownBlock) := Lib.hid fun w1 j hj hM1 => by
    have := pp.set_word_any hM1 ((F + n / 8 : Nat) : Int) ((n % 8 * 2 + j : Nat) : Int) (wv j)
    have hl : (pt j).length = bs.length := by
      obtain rfl | rfl : j = 0 ∨ j = 1 := by omega
      · rw [hpt0]
      · rw [hpt1, put1_len]
    have hi : inn (pt j).length ((F + n / 8 : Nat) : Int) ((n % 8 * 2 + j : Nat) : Int) = true := by rw [hl]; unfold inn; simp; omega
    rw [hi, mem_word_set (by rw [hl]; exact hb) (by omega), hX, hY] at this
    have hj1 : put1 (pt j) (F + n / 8) (n % 8 * 2 + j) (wv j) = pt (j + 1) := by
      obtain rfl | rfl : j = 0 ∨ j = 1 := by omega
      · rw [hpt0, hpt1, hw0]; rfl
      · rw [hpt1, hpt2, hw1]; rfl
    rw [hj1] at this
    exact this
  have hpl : plc F n = #[.int .i64 X, .int .i64 (Y 0), .int .i64 X, .int .i64 (Y 1)] := by unfold plc; rw [hX, ← hY 0, ← hY 1]; rfl
  rw [hpl] at HP
  rw [← hpt2]
  rw [← hpt0] at hM
  subst hw0 hw1
  obtain ⟨d0, d1, d2, d3, d4, d5, d6, d7⟩ := h.plan
  have H := Lib.hid h
  have HM := Lib.hid hM
  have hne : ((n : Int) == 8 * c.lo) = false := beq_eq_false_iff_ne.2 (by omega)
  have hk0 : decide ((n : Int) < 0) = false := by simp
  clear h hM hT hm he hn hpt0 hpt1 hpt2 hpl hY hX hb hlo
  unfold Cfg.cells trip at HL
  go_enter Tryd.func12, Tryd.ntmps12
  go_upto_region 6 with (go_at_call 31; ((with_reducible refine HL.out.mono ?_); rintro e w1 ⟨x, y, rfl, hg1⟩; have HG1 := Lib.hid hg1; clear hg1))
  clear d0 d1 d2 d3 d4 d5 d6 d7
  obtain ⟨c8, c9, c10, c11⟩ := (H.out.grown HG1.out).cells
  go_big_quiet (fail)
  have HG2 := Lib.hid (grown_trans HG1.out (grown_drewN w1 nq))
  generalize w1.drewN nq = w2 at HG2 ⊢
  clear c8 c9 c10 c11
  obtain ⟨c8, c9, c10, c11⟩ := (H.out.grown HG2.out).cells
  go_wp2_with (first
    | (go_at_call 36; ((with_reducible refine (HP.out _ HG2.out).mono ?_); rintro e w3 ⟨rfl, hg3⟩; have HG3 := Lib.hid hg3; clear hg3)))
  have HP1 : Hid (mv.ownBlock ≠ some w3.heap.size) := Lib.hid fun e => by have := mem_lt0 HM.out _ e; have := HG2.out.size; have := HG3.out.size; omega
  have HP2 : Hid (mv.ownBlock ≠ some (w3.heap.size + 1)) := Lib.hid fun e => by have := mem_lt0 HM.out _ e; have := HG2.out.size; have := HG3.out.size; omega
  clear c8 c9 c10 c11 HP HL
  go_loopw [46] (fun i wr => ∃ (j : Nat), j ≤ 2 ∧ i = .int .i64 (j : Int) ∧ Ad2 w wr b mb mv w3.heap.size (w3.heap.size + 1) X Y wv pt j) (fun i _ => 2 - (intOf i).toNat)
  case atStart =>
    have hg := grown_alloc (grown_alloc (grown_trans HG2.out HG3.out) (.cells #[.int .u32 (wv 0), .int .u32 (wv 1)] 71)) (.cells #[.int .i64 X, .int .i64 (Y 0), .int .i64 X, .int .i64 (Y 1)] 81)
    refine ⟨0, Nat.zero_le _, rfl, ⟨hg.os, hg.tape, hg.output, hg.size, fun k hk hn => hg.block k hk (by simp)⟩, HM.out.kept hg, ?_, ?_⟩
    · have := heap_alloc_new (w3.alloc (.cells #[.int .u32 (wv 0), .int .u32 (wv 1)] 71)) (.cells #[.int .i64 X, .int .i64 (Y 0), .int .i64 X, .int .i64 (Y 1)] 81)
      rwa [World.size_alloc] at this
    · rw [Below.heap_alloc _ _ _ (by rw [World.size_alloc]; omega)]
      exact heap_alloc_new _ _
  case round =>
    clear HG3 HG2 HG1
    obtain ⟨j, hj, rfl, ho⟩ := hrel
    have HO := Lib.hid ho
    have HLW := Lib.hid (ho.log H.out HAP.out)
    by_cases hj2 : j < 2
    · obtain ⟨c8, _, _, _⟩ := HLW.out.cells
      obtain ⟨p0, p1, p2⟩ := ho.cells j hj2
      clear ho
      have i1 : decide ((j : Int) < 2) = true := by simp; omega
      have j0 : (0 : Int) ≤ (j : Int) := by omega
      have j2 : (j : Int) < 2 := by omega
      go_upto_region 12 with fail
      go_region_held3 (fun w' => w'.cell? ⟨b, 8, none⟩ = some (.pointer (some ⟨mb, 0, none⟩)) ∧ w'.cell? ⟨w3.heap.size + 1, j * 2, none⟩ = some (.int .i64 X) ∧ w'.cell? ⟨w3.heap.size + 1, j * 2 + 1, none⟩ = some (.int .i64 (Y j)) ∧ w'.cell? ⟨w3.heap.size, j, none⟩ = some (.int .u32 (wv j)))
        (first | exact ⟨c8, p0, p1, p2⟩ | exact ⟨(HO4.out.log H.out HAP.out).cells.1, HO4.out.cells j hj2⟩)
        (first | (go_at_call 28; ((with_reducible refine (HS.out _ j (by omega) (mem_drew HO.out.mem)).mono ?_); rintro e w4 ⟨rfl, hm4, hg4⟩; have HO4 := Lib.hid (HO.out.next (grown_undrew hg4) hm4 HP1.out HP2.out))))
      go_wp2_with fail
      go_roundw
      case rel => exact ⟨j + 1, by omega, by go_num, HO4.out⟩
      case measure => simp [intOf]; omega
    · obtain rfl : j = 2 := by omega
      obtain ⟨c8, c9, c10, c11⟩ := HLW.out.cells
      have f11 := HLW.out.free
      clear ho
      go_wp2_with fail
      go_ret
      have e : (n : Int) + 1 = ((n + 1 : Nat) : Int) := by omega
      rw [e]
      exact ⟨rfl, HLW.out.put (n + 1), mem_log HLW.out HO.out.mem (grown_setCell _ _ _ _), (Fr.of_grown HO.out.gr fun k hk => .inr hk).trans (Fr.of_grown (grown_setCell _ _ _ _) fun k hk => .inl (by cases hk; rfl))⟩
end
end Go.Proofs.YtfjjmlmkpdpdfaaDoor.ud
