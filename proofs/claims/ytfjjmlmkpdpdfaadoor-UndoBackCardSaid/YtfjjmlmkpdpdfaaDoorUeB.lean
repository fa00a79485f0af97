/-
  The landed log: what its At answers. No condition but the bounds that each theorem names.
-/
import Derived.Test.YtfjjmlmkpdpdfaaDoorUeA
import Derived.Deep.RegionHeld3
namespace Go.Proofs.YtfjjmlmkpdpdfaaDoor.ud
open Go Go.ChangeShapes Go.WideShapes Go.ChangeAt Go.RowKit
open Go.Proofs.YtfjjmlmkpdpdfaaDoor.tt (Cfg Tab trip CfgAt)
open Go.Proofs.YtfjjmlmkpdpdfaaDoor.pp (RMem Mem grown_refl grown_trans grown_alloc getW inn)
set_option linter.unusedVariables false
set_option maxRecDepth 1000000

section
variable {w w' : World} {b mb F n : Nat} {c : Cfg}
theorem at_out (h : LogAt w b c mb F n) (i : Int) (hi : i < 0 ∨ (n : Int) ≤ i) : Calls Tryd.prog 23 #[.pointer (some ⟨b, 0, none⟩), .int .i64 i] w fun e w' => e = .returned (.tuple #[.int .u32 0, .int .u32 0, .int .i64 4]) ∧ w.grownBy w' none := by
  obtain ⟨c8, c9, c10, c11⟩ := h.cells
  clear h
  by_cases h0 : i < 0
  · clear hi
    go_enter Tryd.func23, Tryd.ntmps23
    go_wp2
    go_ret3
    exact ⟨rfl, grown_refl _ _⟩
  · have h1 : (n : Int) ≤ i := by omega
    clear hi
    go_enter Tryd.func23, Tryd.ntmps23
    go_wp2
    go_ret3
    exact ⟨rfl, grown_refl _ _⟩

/-- What the walk of At keeps: the places at q, the words at p, j of which are read. -/
structure Wd (w w' : World) (p q : Nat) (X : Int) (Y rd : Nat → Int) (j : Nat) : Prop where
  gr : w.grownBy w' none
  pl : w'.heap[q]? = some (.cells #[.int .i64 X, .int .i64 (Y 0), .int .i64 X, .int .i64 (Y 1)] 81 (0, 0))
  wd : w'.heap[p]? = some (.cells #[.int .u32 (if 1 ≤ j then rd 0 else 0), .int .u32 (if 2 ≤ j then rd 1 else 0)] 71 (0, 0))
theorem Wd.grown {w'' : World} {p q j : Nat} {X : Int} {Y rd : Nat → Int} (h : Wd w w' p q X Y rd j) (hg : w'.grownBy w'' none) : Wd w w'' p q X Y rd j :=
  ⟨grown_trans h.gr hg, (hg.block q (Array.getElem?_eq_some_iff.1 h.pl).1 (by simp)).trans h.pl, (hg.block p (Array.getElem?_eq_some_iff.1 h.wd).1 (by simp)).trans h.wd⟩
theorem Wd.places {p q j : Nat} {X : Int} {Y rd : Nat → Int} (h : Wd w w' p q X Y rd j) (i : Nat) (hi : i < 2) : w'.cell? ⟨q, i * 2, none⟩ = some (.int .i64 X) ∧ w'.cell? ⟨q, i * 2 + 1, none⟩ = some (.int .i64 (Y i)) := by
  obtain rfl | rfl : i = 0 ∨ i = 1 := by omega
  all_goals simp [World.cell?, h.pl]
theorem Wd.words {p q j : Nat} {X : Int} {Y rd : Nat → Int} (h : Wd w w' p q X Y rd j) (i : Nat) (hi : i < 2) : (∃ y, w'.cell? ⟨p, i, none⟩ = some (.int .u32 y)) ∧ w'.frozen? ⟨p, i, none⟩ = false := by
  obtain rfl | rfl : i = 0 ∨ i = 1 := by omega
  · exact ⟨⟨_, by simp [World.cell?, h.wd]; rfl⟩, by simp [World.frozen?, h.wd]⟩
  · exact ⟨⟨_, by simp [World.cell?, h.wd]; rfl⟩, by simp [World.frozen?, h.wd]⟩
theorem Wd.put {p q j : Nat} {X : Int} {Y rd : Nat → Int} (h : Wd w w' p q X Y rd j) (hj : j < 2) (hp : w.heap.size ≤ p) (hq : q ≠ p) : Wd w (w'.setCell ⟨p, j, none⟩ (.int .u32 (rd j))) p q X Y rd (j + 1) := by
  refine ⟨grown_new h.gr hp (grown_setCell _ _ _ _), (Below.heap_setCell _ _ _ _ (by simpa using hq)).trans h.pl, ?_⟩
  rw [set_heap h.wd]
  obtain rfl | rfl : j = 0 ∨ j = 1 := by omega
  all_goals simp

set_option maxHeartbeats 1000000 in
theorem at_in (h : LogAt w b c mb F n) {mv : Value} {bs : List (List Int)} (hM : Mem w mb mv bs) (k : Nat) (hk : k < n) (hn : n ≤ 32) (hF : F ≤ 256) (hb : F + k / 8 < bs.length) : Calls Tryd.prog 23 #[.pointer (some ⟨b, 0, none⟩), .int .i64 (k : Int)] w fun e w' => e = .returned (.tuple #[.int .u32 (getW bs ((F + k / 8 : Nat) : Int) ((k % 8 * 2 : Nat) : Int)), .int .u32 (getW bs ((F + k / 8 : Nat) : Int) ((k % 8 * 2 + 1 : Nat) : Int)), .int .i64 0]) ∧ w.grownBy w' none := by
  obtain ⟨rd, hrd⟩ : ∃ rd : Nat → Int, rd = fun j => getW bs ((F + k / 8 : Nat) : Int) ((k % 8 * 2 + j : Nat) : Int) := ⟨_, rfl⟩
  have HP : Hid (∀ w1, w.grownBy w1 none → _) := Lib.hid fun w1 hg => places_any (h.grown hg) k hF (by omega)
  have HW : Hid (∀ w1 j, w.grownBy w1 none → j < 2 → Calls Tryd.prog 13 #[.pointer (some ⟨mb, 0, none⟩), .int .i64 ((F + k / 8 : Nat) : Int), .int .i64 ((k % 8 * 2 + j : Nat) : Int)] w1 fun e w' => e = .returned (.tuple #[.int .u32 (rd j), .int .i64 0]) ∧ w1.grownBy w' none) := Lib.hid fun w1 j hg hj => by
    have := pp.word_any (hM.kept hg) ((F + k / 8 : Nat) : Int) ((k % 8 * 2 + j : Nat) : Int)
    have hi : inn bs.length ((F + k / 8 : Nat) : Int) ((k % 8 * 2 + j : Nat) : Int) = true := by unfold inn; simp; omega
    rw [hi] at this
    rw [hrd]
    exact this
  have hr0 : getW bs ((F + k / 8 : Nat) : Int) ((k % 8 * 2 : Nat) : Int) = rd 0 := by rw [hrd]; rfl
  have hr1 : getW bs ((F + k / 8 : Nat) : Int) ((k % 8 * 2 + 1 : Nat) : Int) = rd 1 := by rw [hrd]
  rw [hr0, hr1]
  clear hr0 hr1
  obtain ⟨X, hX⟩ : ∃ X : Int, ((F + k / 8 : Nat) : Int) = X := ⟨_, rfl⟩
  obtain ⟨Y, hY⟩ : ∃ Y : Nat → Int, ∀ j, ((k % 8 * 2 + j : Nat) : Int) = Y j := ⟨fun j => ((k % 8 * 2 + j : Nat) : Int), fun _ => rfl⟩
  have hpl : plc F k = #[.int .i64 X, .int .i64 (Y 0), .int .i64 X, .int .i64 (Y 1)] := by unfold plc; rw [hX, ← hY 0, ← hY 1]; rfl
  rw [hpl] at HP
  rw [hX] at HW
  simp only [hY] at HW
  have H := Lib.hid h
  have HY := Lib.hid (And.intro hX hY)
  obtain ⟨c8, c9, c10, c11⟩ := h.cells
  have hlt := h.lt
  have hk0 : decide ((k : Int) < 0) = false := by simp
  clear h hM hrd hX hY hpl
  go_enter Tryd.func23, Tryd.ntmps23
  go_wp2_with (first
    | (go_at_call 36; ((with_reducible refine (HP.out _ (grown_alloc (grown_refl _ _) _)).mono ?_); rintro e w1 ⟨rfl, hg1⟩; have HG1 := Lib.hid hg1; clear hg1)))
  have hs1 : w.heap.size < w1.heap.size := Nat.lt_of_lt_of_le (by rw [World.size_alloc]; omega) HG1.out.size
  go_loopw [6, 25] (fun z i wr => ∃ (j : Nat), j ≤ 2 ∧ z = .int .i64 0 ∧ i = .int .i64 (j : Int) ∧ Wd w wr w.heap.size w1.heap.size X Y rd j) (fun _ i _ => 2 - (intOf i).toNat)
  case atStart =>
    refine ⟨0, Nat.zero_le _, rfl, rfl, ?_, ?_, ?_⟩
    · exact grown_alloc (grown_trans (grown_alloc (grown_refl _ _) _) HG1.out) _
    · exact heap_alloc_new _ _
    · rw [Below.heap_alloc _ _ _ hs1, HG1.out.block _ (by rw [World.size_alloc]; omega) (by simp)]
      exact heap_alloc_new _ _
  case round =>
    clear c8 c9 c10 c11 HG1 HP
    obtain ⟨j, hj, rfl, rfl, ho⟩ := hrel
    have HO := Lib.hid ho
    by_cases hj2 : j < 2
    · have hg := (H.out.grown ho.gr).cells.1
      obtain ⟨p0, p1⟩ := ho.places j hj2
      obtain ⟨⟨y, q0⟩, q1⟩ := ho.words j hj2
      clear ho
      have i1 : decide ((j : Int) < 2) = true := by simp; omega
      have j0 : (0 : Int) ≤ (j : Int) := by omega
      have j2 : (j : Int) < 2 := by omega
      go_upto_region 10 with fail
      go_region_held3 (fun w' => w'.cell? ⟨b, 8, none⟩ = some (.pointer (some ⟨mb, 0, none⟩)) ∧ w'.cell? ⟨w1.heap.size, j * 2, none⟩ = some (.int .i64 X) ∧ w'.cell? ⟨w1.heap.size, j * 2 + 1, none⟩ = some (.int .i64 (Y j)))
        (first | exact ⟨hg, p0, p1⟩ | exact ⟨(H.out.grown HO3.out.gr).cells.1, (HO3.out.places j hj2).1, (HO3.out.places j hj2).2⟩ | exact ⟨(H.out.grown (HO3.out.put hj2 (Nat.le_refl _) (by omega)).gr).cells.1, ((HO3.out.put hj2 (Nat.le_refl _) (by omega)).places j hj2).1, ((HO3.out.put hj2 (Nat.le_refl _) (by omega)).places j hj2).2⟩)
        (first | (go_at_call 13; ((with_reducible refine (HW.out _ j (grown_trans HO.out.gr (show wr.grownBy wr.drew none from ⟨rfl, rfl, rfl, Nat.le_refl _, fun _ _ _ => rfl⟩)) (by omega)).mono ?_); rintro e w3 ⟨rfl, hg3⟩; have HO3 := Lib.hid (HO.out.grown (grown_trans (show wr.grownBy wr.drew none from ⟨rfl, rfl, rfl, Nat.le_refl _, fun _ _ _ => rfl⟩) hg3)); obtain ⟨⟨y3, q30⟩, q31⟩ := HO3.out.words j (by omega))))
      go_wp2_with fail
      go_roundw
      case rel => exact ⟨j + 1, by omega, rfl, by go_num, HO3.out.put hj2 (Nat.le_refl _) (by omega)⟩
      case measure => simp [intOf]; omega
    · obtain rfl : j = 2 := by omega
      have q0 : wr.cell? ⟨w.heap.size, 0, none⟩ = some (.int .u32 (rd 0)) := by simp [World.cell?, ho.wd]
      have q1 : wr.cell? ⟨w.heap.size, 1, none⟩ = some (.int .u32 (rd 1)) := by simp [World.cell?, ho.wd]
      clear ho
      go_wp2_with fail
      go_big_quiet (fail)
      go_wp2_with fail
      go_ret3
      exact ⟨rfl, grown_trans HO.out.gr (grown_drewN _ _)⟩
end
end Go.Proofs.YtfjjmlmkpdpdfaaDoor.ud
