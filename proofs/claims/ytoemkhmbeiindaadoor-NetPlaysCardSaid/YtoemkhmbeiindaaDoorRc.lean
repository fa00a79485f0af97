/-
  What the document's Send of a net answers, and the net behind it: contracts. Condition: none but what each theorem names.
-/
import Derived.Test.YtoemkhmbeiindaaDoorRb
import Derived.Test.YtoemkhmbeiindaaDoorNg
import Derived.Test.YtoemkhmbeiindaaDoorKb0
namespace Go.Proofs.YtoemkhmbeiindaaDoor.tt
open Go Go.ChangeShapes Go.WideShapes Go.ChangeAt Go.RowKit Go.Shelf
set_option linter.unusedVariables false

theorem grown_newO {w w1 w2 : World} {o : Option Nat} (h : w.grownBy w1 none) (hg : ∀ k, o = some k → w.heap.size ≤ k) (k : w1.grownBy w2 o) : w.grownBy w2 none :=
  ⟨k.os.trans h.os, k.tape.trans h.tape, k.output.trans h.output, Nat.le_trans h.size k.size, fun i hi hn => (k.block i (Nat.lt_of_lt_of_le hi h.size) (fun e => by have := hg i e.symm; omega)).trans (h.block i hi hn)⟩
/-- The document's net with another slice in its variable. -/
theorem RNet.put {w : World} {q r : Nat} {c : Cfg} {u v : Value} {ns ns' : List Nt} {h : Int} (H : RNet w q c r u ns h) (hs : NSl w v ns') : RNet (w.setCell ⟨q, 9, none⟩ v) q c r v ns' h := by
  refine ⟨?_, hs.of_block fun g hg => Below.heap_setCell _ _ _ _ (fun e => ?_)⟩
  · obtain ⟨hlt, hk⟩ := Array.getElem?_eq_some_iff.1 H.blk
    show (w.heap.modify q _)[q]? = _
    rw [Array.getElem?_eq_getElem (by rw [Array.size_modify]; exact hlt), Array.getElem_modify_self, hk]
    rfl
  · obtain ⟨cur, hc⟩ := hs.type g hg
    have : g = q := e
    subst this
    rw [H.blk] at hc; cases hc
/-- How far those that were taken went. -/
theorem RNet.hops {w : World} {q r : Nat} {c : Cfg} {u : Value} {ns : List Nt} {h : Int} (H : RNet w q c r u ns h) (h' : Int) : RNet (w.setCell ⟨q, 10, none⟩ (.int .i64 h')) q c r u ns h' := by
  refine ⟨?_, H.sl.of_block fun g hg => Below.heap_setCell _ _ _ _ (H.qu g hg)⟩
  obtain ⟨hlt, hk⟩ := Array.getElem?_eq_some_iff.1 H.blk
  show (w.heap.modify q _)[q]? = _
  rw [Array.getElem?_eq_getElem (by rw [Array.size_modify]; exact hlt), Array.getElem_modify_self, hk]
  rfl
theorem grown_set {w w2 : World} {q i : Nat} {v : Value} (h : w.grownBy w2 none) : w.grownBy (w2.setCell ⟨q, i, none⟩ v) (some q) :=
  ⟨h.os, h.tape, h.output, by have := h.size; simpa [World.setCell] using this, fun k hk hn => (Below.heap_setCell _ _ _ _ (show k ≠ q from fun e => hn (by rw [e]))).trans (h.block k hk (by simp))⟩
set_option maxRecDepth 100000 in
set_option maxHeartbeats 2000000 in
theorem rsend_bad (q : Nat) (c : Cfg) (r : Nat) (u : Value) (ns : List Nt) (h : Int) (n : Nt) (w : World) (H : RNet w q c r u ns h) (hm : c.may) (hf : ¬ fits c n) : Calls Tryd.prog 21 #[.pointer (some ⟨q, 0, none⟩), .agg (na n)] w fun e w' => e = .returned (.int .i64 2) ∧ w.grownBy w' none := by
  have hg : w.grownBy (w.alloc (.cells (na n) 37)) none := grown_alloc (grown_refl _ _) _
  have HF : Hid (∀ w, _) := Lib.hid fun w => rfits_any c n w hm
  rw [decide_eq_false hf] at HF
  have HRN := Lib.hid (H.grown hg)
  have HN0 : Hid ((w.alloc (.cells (na n) 37)).rangeAt w.heap.size 0 (nt n)) := Lib.hid (range_of (heap_alloc_new _ _))
  obtain ⟨t', mm, HTT, hagg, hsize, hld⟩ := named
  obtain ⟨wa, hwa⟩ : ∃ wa, w.alloc (.cells (na n) 37) = wa := ⟨_, rfl⟩
  have hlt : w.heap.size < wa.heap.size := by rw [← hwa]; simp
  rw [hwa] at hg HRN HN0
  have HWA := Lib.hid hwa
  have HLT := Lib.hid hlt
  have HG := Lib.hid hg
  have HX : Hid (∀ w', wa.grownBy w' none → (loadCellsFrom ⟨w.heap.size, 0, none⟩ 0 mm #[]).run Tryd.prog w' = .ok (na n) w') := Lib.hid fun w' h' => hld _ _ _ (range_grown HN0.out h' (by simp))
  have HFF : Hid (∀ w', wa.grownBy w' none → ((loadCellsFrom ⟨w.heap.size, 0, none⟩ 0 mm #[]).run Tryd.prog w' = .ok (na n) w' ∧ (w'.cell? ⟨q, 0, none⟩ = some (.int .i64 c.co) ∧ w'.cell? ⟨q, 1, none⟩ = some (.int .i64 c.se) ∧ w'.cell? ⟨q, 2, none⟩ = some (.int .i64 c.wa) ∧ w'.cell? ⟨q, 3, none⟩ = some (.int .i64 c.bl) ∧ w'.cell? ⟨q, 4, none⟩ = some (.int .i64 c.lo) ∧ w'.cell? ⟨q, 5, none⟩ = some (.int .i64 c.ba) ∧ w'.cell? ⟨q, 6, none⟩ = some (.int .i64 c.ne) ∧ w'.cell? ⟨q, 7, none⟩ = some (.int .i64 c.tr)))) := Lib.hid fun w' h' => ⟨HX.out w' h', (HRN.out.grown h').cfg⟩
  unfold Cfg.cells at HF
  clear H hm hf hg hwa hlt hld
  go_enter Tryd.func21, Tryd.ntmps21
  go_wp2_with fail
  rw [HTT.out, HWA.out]
  go_region_held3 (fun w' => ((loadCellsFrom ⟨w.heap.size, 0, none⟩ 0 mm #[]).run Tryd.prog w' = .ok (na n) w' ∧ (w'.cell? ⟨q, 0, none⟩ = some (.int .i64 c.co) ∧ w'.cell? ⟨q, 1, none⟩ = some (.int .i64 c.se) ∧ w'.cell? ⟨q, 2, none⟩ = some (.int .i64 c.wa) ∧ w'.cell? ⟨q, 3, none⟩ = some (.int .i64 c.bl) ∧ w'.cell? ⟨q, 4, none⟩ = some (.int .i64 c.lo) ∧ w'.cell? ⟨q, 5, none⟩ = some (.int .i64 c.ba) ∧ w'.cell? ⟨q, 6, none⟩ = some (.int .i64 c.ne) ∧ w'.cell? ⟨q, 7, none⟩ = some (.int .i64 c.tr))) ∧ wa.grownBy w' none) (first | exact ⟨HFF.out _ (grown_refl _ _), grown_refl _ _⟩ | exact ⟨HFF.out _ (grown_drew (grown_refl _ _)), grown_drew (grown_refl _ _)⟩ | assumption | exact keepF HFF (by assumption) (by assumption) | exact keepF HFF (by assumption) (grown_drew (grown_refl _ _))) (first
      | (go_at_call 28; ((refine (HF.out _).mono ?_); rintro e w10 ⟨rfl, hg10⟩)))
  all_goals
    have HE := Lib.hid (And.right (by assumption : _ ∧ wa.grownBy w10 none))
    go_wp2_with fail
    go_ret
    exact ⟨rfl, grown_trans HG.out HE.out⟩
theorem range_set {w : World} {g o q i : Nat} {v : Value} {xs : List Value} (h : w.rangeAt g o xs) (hg : g ≠ q) : (w.setCell ⟨q, i, none⟩ v).rangeAt g o xs := fun j x hx => by
  rw [← h j x hx]
  exact World.cell?_of_block (Below.heap_setCell _ _ _ _ hg)
section
variable (q : Nat) (c : Cfg) (r : Nat) (u : Value) (ns : List Nt) (h : Int) (n : Nt) (w : World) (H : RNet w q c r u ns h) (hm : c.may) (hr2 : r ≤ 1024) (hl : ns.length ≤ 65536)
include H hm hr2 hl
set_option maxRecDepth 100000 in
set_option maxHeartbeats 2000000 in
theorem rsend_full (hf : fits c n) (hr : ¬ many ns n.t (net n.k) < r) : Calls Tryd.prog 21 #[.pointer (some ⟨q, 0, none⟩), .agg (na n)] w fun e w' => e = .returned (.int .i64 7) ∧ w.grownBy w' none := by
  have hg : w.grownBy (w.alloc (.cells (na n) 37)) none := grown_alloc (grown_refl _ _) _
  have HF : Hid (∀ w, _) := Lib.hid fun w => rfits_any c n w hm
  rw [decide_eq_true hf] at HF
  have HRN := Lib.hid (H.grown hg)
  have HN0 : Hid ((w.alloc (.cells (na n) 37)).rangeAt w.heap.size 0 (nt n)) := Lib.hid (range_of (heap_alloc_new _ _))
  obtain ⟨t', mm, HTT, hagg, hsize, hld⟩ := named
  obtain ⟨wa, hwa⟩ : ∃ wa, w.alloc (.cells (na n) 37) = wa := ⟨_, rfl⟩
  have hlt : w.heap.size < wa.heap.size := by rw [← hwa]; simp
  rw [hwa] at hg HRN HN0
  have HWA := Lib.hid hwa
  have HLT := Lib.hid hlt
  have HG := Lib.hid hg
  have HX : Hid (∀ w', wa.grownBy w' none → (loadCellsFrom ⟨w.heap.size, 0, none⟩ 0 mm #[]).run Tryd.prog w' = .ok (na n) w') := Lib.hid fun w' h' => hld _ _ _ (range_grown HN0.out h' (by simp))
  have HFF : Hid (∀ w', wa.grownBy w' none → ((loadCellsFrom ⟨w.heap.size, 0, none⟩ 0 mm #[]).run Tryd.prog w' = .ok (na n) w' ∧ (w'.cell? ⟨q, 0, none⟩ = some (.int .i64 c.co) ∧ w'.cell? ⟨q, 1, none⟩ = some (.int .i64 c.se) ∧ w'.cell? ⟨q, 2, none⟩ = some (.int .i64 c.wa) ∧ w'.cell? ⟨q, 3, none⟩ = some (.int .i64 c.bl) ∧ w'.cell? ⟨q, 4, none⟩ = some (.int .i64 c.lo) ∧ w'.cell? ⟨q, 5, none⟩ = some (.int .i64 c.ba) ∧ w'.cell? ⟨q, 6, none⟩ = some (.int .i64 c.ne) ∧ w'.cell? ⟨q, 7, none⟩ = some (.int .i64 c.tr)))) := Lib.hid fun w' h' => ⟨HX.out w' h', (HRN.out.grown h').cfg⟩
  unfold Cfg.cells at HF
  have HRM : Hid (∀ w', wa.grownBy w' none → _) := Lib.hid fun w' h' => rroom_any q c r u ns h w' (HRN.out.grown h') n.t (net n.k) hr2 hl
  rw [room_of hf] at HRM
  have HNT : Hid (∀ w, _) := Lib.hid fun w => rnet_any n.k w
  obtain ⟨y, hy⟩ : ∃ y, y = many ns n.t (net n.k) := ⟨_, rfl⟩
  rw [← hy] at HRM hr
  obtain ⟨m, hmk⟩ : ∃ m, m = net n.k := ⟨_, rfl⟩
  rw [← hmk] at HRM HNT
  have hd : decide ((r : Int) - (y : Int) ≤ 0) = true := by simp; omega
  generalize (r : Int) - (y : Int) = d at HRM hd
  clear H hm hr2 hl hf hg hwa hlt hld hr hy hmk
  go_enter Tryd.func21, Tryd.ntmps21
  go_wp2_with fail
  rw [HTT.out, HWA.out]
  go_region_held3 (fun w' => ((loadCellsFrom ⟨w.heap.size, 0, none⟩ 0 mm #[]).run Tryd.prog w' = .ok (na n) w' ∧ (w'.cell? ⟨q, 0, none⟩ = some (.int .i64 c.co) ∧ w'.cell? ⟨q, 1, none⟩ = some (.int .i64 c.se) ∧ w'.cell? ⟨q, 2, none⟩ = some (.int .i64 c.wa) ∧ w'.cell? ⟨q, 3, none⟩ = some (.int .i64 c.bl) ∧ w'.cell? ⟨q, 4, none⟩ = some (.int .i64 c.lo) ∧ w'.cell? ⟨q, 5, none⟩ = some (.int .i64 c.ba) ∧ w'.cell? ⟨q, 6, none⟩ = some (.int .i64 c.ne) ∧ w'.cell? ⟨q, 7, none⟩ = some (.int .i64 c.tr))) ∧ wa.grownBy w' none) (first | exact ⟨HFF.out _ (grown_refl _ _), grown_refl _ _⟩ | exact ⟨HFF.out _ (grown_drew (grown_refl _ _)), grown_drew (grown_refl _ _)⟩ | assumption | exact keepF HFF (by assumption) (by assumption) | exact keepF HFF (by assumption) (grown_drew (grown_refl _ _))) (first
      | (go_at_call 28; ((refine (HF.out _).mono ?_); rintro e w10 ⟨rfl, hg10⟩)))
  all_goals
    have HE := Lib.hid (And.right (by assumption : _ ∧ wa.grownBy w10 none))
    obtain ⟨wb, hwb⟩ : ∃ wb, w10 = wb := ⟨_, rfl⟩
    subst hwb
    have HKC : Hid (∀ w', w10.grownBy w' none → w'.cell? ⟨w.heap.size, 0, none⟩ = some (.int .u8 n.k) ∧ w'.cell? ⟨w.heap.size, 2, none⟩ = some (.int .i64 n.t)) := Lib.hid fun w' h' => ⟨cell_at (range_grown HN0.out (grown_trans HE.out h') (by simp)) 0 _ rfl, cell_at (range_grown HN0.out (grown_trans HE.out h') (by simp)) 2 _ rfl⟩
    go_wp2_with fail
    go_region_held3 (fun w' => (w'.cell? ⟨w.heap.size, 0, none⟩ = some (.int .u8 n.k) ∧ w'.cell? ⟨w.heap.size, 2, none⟩ = some (.int .i64 n.t)) ∧ w10.grownBy w' none) (first | exact ⟨HKC.out _ (grown_refl _ _), grown_refl _ _⟩ | exact ⟨HKC.out _ (grown_drew (grown_refl _ _)), grown_drew (grown_refl _ _)⟩ | assumption | exact keepF HKC (by assumption) (by assumption) | exact keepF HKC (by assumption) (grown_drew (grown_refl _ _))) (first
      | (go_at_call 42; ((refine (HNT.out _).mono ?_); rintro e w12 ⟨rfl, rfl⟩))
      | (go_at_call 23; ((refine (HRM.out _ (grown_trans HE.out (And.right (by assumption : _ ∧ w10.grownBy _ none)))).mono ?_); rintro e w13 ⟨rfl, rfl⟩)))
    all_goals
      go_wp2_with fail
      go_ret
      exact ⟨rfl, grown_trans HG.out (grown_trans HE.out (by first | exact And.right (by assumption : _ ∧ w10.grownBy _ none) | exact grown_drew (And.right (by assumption : _ ∧ w10.grownBy _ none))))⟩
set_option maxRecDepth 100000 in
set_option maxHeartbeats 4000000 in
theorem rsend_ok (hf : fits c n) (hr : many ns n.t (net n.k) < r) : Calls Tryd.prog 21 #[.pointer (some ⟨q, 0, none⟩), .agg (na n)] w fun e w' => e = .returned (.int .i64 0) ∧ ∃ u', RNet w' q c r u' (ns ++ [n]) h ∧ w.grownBy w' (some q) ∧ ∀ k, u'.ownBlock = some k → w.heap.size ≤ k := by
  obtain ⟨i0, hi, hz0, hz1, hz2⟩ := info_parts infoN
  have hg : w.grownBy (w.alloc (.cells (na n) 37)) none := grown_alloc (grown_refl _ _) _
  have HF : Hid (∀ w, _) := Lib.hid fun w => rfits_any c n w hm
  rw [decide_eq_true hf] at HF
  have HRN := Lib.hid (H.grown hg)
  have HN0 : Hid ((w.alloc (.cells (na n) 37)).rangeAt w.heap.size 0 (nt n)) := Lib.hid (range_of (heap_alloc_new _ _))
  obtain ⟨t', mm, HTT, hagg, hsize, hld⟩ := named
  obtain ⟨wa, hwa⟩ : ∃ wa, w.alloc (.cells (na n) 37) = wa := ⟨_, rfl⟩
  have hlt : w.heap.size < wa.heap.size := by rw [← hwa]; simp
  rw [hwa] at hg HRN HN0
  have HWA := Lib.hid hwa
  have HLT := Lib.hid hlt
  have HG := Lib.hid hg
  have HX : Hid (∀ w', wa.grownBy w' none → (loadCellsFrom ⟨w.heap.size, 0, none⟩ 0 mm #[]).run Tryd.prog w' = .ok (na n) w') := Lib.hid fun w' h' => hld _ _ _ (range_grown HN0.out h' (by simp))
  have HFF : Hid (∀ w', wa.grownBy w' none → ((loadCellsFrom ⟨w.heap.size, 0, none⟩ 0 mm #[]).run Tryd.prog w' = .ok (na n) w' ∧ (w'.cell? ⟨q, 0, none⟩ = some (.int .i64 c.co) ∧ w'.cell? ⟨q, 1, none⟩ = some (.int .i64 c.se) ∧ w'.cell? ⟨q, 2, none⟩ = some (.int .i64 c.wa) ∧ w'.cell? ⟨q, 3, none⟩ = some (.int .i64 c.bl) ∧ w'.cell? ⟨q, 4, none⟩ = some (.int .i64 c.lo) ∧ w'.cell? ⟨q, 5, none⟩ = some (.int .i64 c.ba) ∧ w'.cell? ⟨q, 6, none⟩ = some (.int .i64 c.ne) ∧ w'.cell? ⟨q, 7, none⟩ = some (.int .i64 c.tr)))) := Lib.hid fun w' h' => ⟨HX.out w' h', (HRN.out.grown h').cfg⟩
  unfold Cfg.cells at HF
  have HRM : Hid (∀ w', wa.grownBy w' none → _) := Lib.hid fun w' h' => rroom_any q c r u ns h w' (HRN.out.grown h') n.t (net n.k) hr2 hl
  rw [room_of hf] at HRM
  have HNT : Hid (∀ w, _) := Lib.hid fun w => rnet_any n.k w
  obtain ⟨y, hy⟩ : ∃ y, y = many ns n.t (net n.k) := ⟨_, rfl⟩
  rw [← hy] at HRM hr
  obtain ⟨m, hmk⟩ : ∃ m, m = net n.k := ⟨_, rfl⟩
  rw [← hmk] at HRM HNT
  have hd : decide ((r : Int) - (y : Int) ≤ 0) = false := by simp; omega
  generalize (r : Int) - (y : Int) = d at HRM hd
  have hql := H.lt
  have HQL := Lib.hid hql
  have HLD := Lib.hid hld
  have HL := Lib.hid hl
  clear H hm hr2 hl hf hg hwa hlt hld hr hy hmk hql
  go_enter Tryd.func21, Tryd.ntmps21
  go_wp2_with fail
  rw [HTT.out, HWA.out]
  go_region_held3 (fun w' => ((loadCellsFrom ⟨w.heap.size, 0, none⟩ 0 mm #[]).run Tryd.prog w' = .ok (na n) w' ∧ (w'.cell? ⟨q, 0, none⟩ = some (.int .i64 c.co) ∧ w'.cell? ⟨q, 1, none⟩ = some (.int .i64 c.se) ∧ w'.cell? ⟨q, 2, none⟩ = some (.int .i64 c.wa) ∧ w'.cell? ⟨q, 3, none⟩ = some (.int .i64 c.bl) ∧ w'.cell? ⟨q, 4, none⟩ = some (.int .i64 c.lo) ∧ w'.cell? ⟨q, 5, none⟩ = some (.int .i64 c.ba) ∧ w'.cell? ⟨q, 6, none⟩ = some (.int .i64 c.ne) ∧ w'.cell? ⟨q, 7, none⟩ = some (.int .i64 c.tr))) ∧ wa.grownBy w' none) (first | exact ⟨HFF.out _ (grown_refl _ _), grown_refl _ _⟩ | exact ⟨HFF.out _ (grown_drew (grown_refl _ _)), grown_drew (grown_refl _ _)⟩ | assumption | exact keepF HFF (by assumption) (by assumption) | exact keepF HFF (by assumption) (grown_drew (grown_refl _ _))) (first
      | (go_at_call 28; ((refine (HF.out _).mono ?_); rintro e w10 ⟨rfl, hg10⟩)))
  all_goals
    have HE := Lib.hid (And.right (by assumption : _ ∧ wa.grownBy w10 none))
    obtain ⟨wb, hwb⟩ : ∃ wb, w10 = wb := ⟨_, rfl⟩
    subst hwb
    have HKC : Hid (∀ w', w10.grownBy w' none → w'.cell? ⟨w.heap.size, 0, none⟩ = some (.int .u8 n.k) ∧ w'.cell? ⟨w.heap.size, 2, none⟩ = some (.int .i64 n.t)) := Lib.hid fun w' h' => ⟨cell_at (range_grown HN0.out (grown_trans HE.out h') (by simp)) 0 _ rfl, cell_at (range_grown HN0.out (grown_trans HE.out h') (by simp)) 2 _ rfl⟩
    go_wp2_with fail
    go_region_held3 (fun w' => (w'.cell? ⟨w.heap.size, 0, none⟩ = some (.int .u8 n.k) ∧ w'.cell? ⟨w.heap.size, 2, none⟩ = some (.int .i64 n.t)) ∧ w10.grownBy w' none) (first | exact ⟨HKC.out _ (grown_refl _ _), grown_refl _ _⟩ | exact ⟨HKC.out _ (grown_drew (grown_refl _ _)), grown_drew (grown_refl _ _)⟩ | assumption | exact keepF HKC (by assumption) (by assumption) | exact keepF HKC (by assumption) (grown_drew (grown_refl _ _))) (first
      | (go_at_call 42; ((refine (HNT.out _).mono ?_); rintro e w12 ⟨rfl, rfl⟩))
      | (go_at_call 23; ((refine (HRM.out _ (grown_trans HE.out (And.right (by assumption : _ ∧ w10.grownBy _ none)))).mono ?_); rintro e w13 ⟨rfl, rfl⟩)))
    all_goals
      go_wp2_with fail
      obtain ⟨wz, hwz⟩ : ∃ wz, w10.drew = wz := ⟨_, rfl⟩
      have HZ : Hid (wa.grownBy wz none) := Lib.hid (by rw [← hwz]; exact grown_drew HE.out)
      rw [hwz, HTT.out]
      clear hwz
      have HRZ := Lib.hid (HRN.out.grown HZ.out)
      have HNZ := Lib.hid (range_grown HN0.out HZ.out (by simp))
      have hnsz := na_size n
      have hfd := build_na n
      have HG0 : Hid (wz.grownBy wz.drew none) := Lib.hid (grown_drew (grown_refl _ _))
      have HNQ : Hid (w.heap.size ≠ q) := Lib.hid (by have := HQL.out; omega)
      obtain ⟨adu, capu, rfl⟩ := HRZ.out.sl.form
      refine wp_region_held_drew (S := fun w' => (loadCellsFrom ⟨w.heap.size, 0, none⟩ 0 mm #[]).run Tryd.prog w' = .ok (na n) w') (by kernel_rfl) (HX.out _ (grown_trans HZ.out HG0.out)) (fun hHeld => ?_)
      generalize hwy : wz.drew = wy at HG0 hHeld ⊢
      clear hwy
      refine wpAnyH_take (i := 0) (oi := ⟨some 20, Op.move (Operand.tmp 0), _, _, _, _⟩) (v := ?v1) rfl (by kernel_rfl) (by kernel_rfl) (by kernel_rfl) (fun _ _ _ h => h) (Or.inl ⟨by rfl, ?hy1⟩) (by assumption) ?rest1
      case hy1 => ((intro w0 hSw; have hs1 := hSw; go_simp); try (with_reducible rfl))
      try simp only [Act.put, List.setIfInBounds_toArray, List.set_cons_zero, List.set_cons_succ]
      refine wpAnyH_take (i := 2) (oi := ⟨some 22, Op.move (Operand.tmp 0), _, _, _, _⟩) (v := ?v2) rfl (by kernel_rfl) (by kernel_rfl) (by kernel_rfl) (fun _ _ _ h => h) (Or.inl ⟨by rfl, ?hy2⟩) (by assumption) ?rest2
      case hy2 => ((intro w0 hSw; have hs1 := hSw; go_simp); try (with_reducible rfl))
      try simp only [Act.put, List.setIfInBounds_toArray, List.set_cons_zero, List.set_cons_succ]
      refine wpAnyH_take (i := 3) (oi := ⟨some 23, Op.nilCheck (Operand.tmp 22), _, _, _, _⟩) (v := ?v3) rfl (by kernel_rfl) (by kernel_rfl) (by kernel_rfl) (fun _ _ _ h => h) (Or.inl ⟨by rfl, ?hy3⟩) (by assumption) ?rest3
      case hy3 => ((intro w0 hSw; have hs1 := hSw; go_simp); try (with_reducible rfl))
      try simp only [Act.put, List.setIfInBounds_toArray, List.set_cons_zero, List.set_cons_succ]
      refine wpAnyH_take (i := 4) (oi := ⟨some 24, Op.fieldAddr 52 (Operand.tmp 23) 2, _, _, _, _⟩) (v := ?v4) rfl (by kernel_rfl) (by kernel_rfl) (by kernel_rfl) (fun _ _ _ h => h) (Or.inl ⟨by rfl, ?hy4⟩) (by assumption) ?rest4
      case hy4 => ((intro w0 hSw; have hs1 := hSw; go_simp); try (with_reducible rfl))
      try simp only [Act.put, List.setIfInBounds_toArray, List.set_cons_zero, List.set_cons_succ]
      refine wpAnyH_take (i := 7) (oi := ⟨some 27, Op.load t' (Operand.tmp 3), _, _, _, _⟩) (v := ?v5) rfl (by kernel_rfl) (by kernel_rfl) (by kernel_rfl) (fun _ _ _ h => h) (Or.inl ⟨by rfl, ?hy5⟩) (by assumption) ?rest5
      case hy5 => ((intro w0 hSw; have hs1 := hSw; go_simp); try (with_reducible rfl))
      try simp only [Act.put, List.setIfInBounds_toArray, List.set_cons_zero, List.set_cons_succ]
      refine wpAnyH_ready (rs := [1, 5, 8]) (by kernel_rfl) (by simp) ?_
      refine (AllReadyH.cons (o := ⟨some 21, Op.buildSlice 50 0 #[], _, _, _, _⟩) rfl (fun K hK => ?_) (AllReadyH.cons (o := ⟨some 25, Op.load 50 (Operand.tmp 24), _, _, _, _⟩) rfl (fun K hK => ?_) (AllReadyH.cons (o := ⟨some 28, Op.buildSlice 50 1 #[(0, (Operand.tmp 27))], _, _, _, _⟩) rfl (fun K hK => ?_) AllReadyH.nil)))
      · skip
        have HG1 : Hid (wz.grownBy (wy.alloc (.cells #[] 37)) none) := Lib.hid (grown_alloc HG0.out _)
        have HS1 : Hid (Sl (wy.alloc (.cells #[] 37)) 37 24 (.slice (some ⟨wy.heap.size, 0, none⟩) 0 0) 0 []) := Lib.hid (by have := Sl.empty wy 37 24; exact this)
        have HB1 : Hid (wz.heap.size ≤ wy.heap.size) := Lib.hid (by have := HG0.out.size; exact this)
        go_simp
        refine hK.out _ _ (HX.out _ (grown_trans HZ.out HG1.out)) (fun hHeld => ?_)
        clear hK K
        try simp only [Act.put, List.setIfInBounds_toArray, List.set_cons_zero, List.set_cons_succ]
        refine wpAnyH_ready (rs := [5, 8]) (by kernel_rfl) (by simp) ?_
        refine (AllReadyH.cons (o := ⟨some 25, Op.load 50 (Operand.tmp 24), _, _, _, _⟩) rfl (fun K hK => ?_) (AllReadyH.cons (o := ⟨some 28, Op.buildSlice 50 1 #[(0, (Operand.tmp 27))], _, _, _, _⟩) rfl (fun K hK => ?_) AllReadyH.nil))
        · skip
          have hc9 := (HRZ.out.grown HG1.out).c9
          go_simp
          refine hK.out _ _ (HX.out _ (grown_trans HZ.out HG1.out)) (fun hHeld => ?_)
          clear hc9
          clear hK K
          try simp only [Act.put, List.setIfInBounds_toArray, List.set_cons_zero, List.set_cons_succ]
          refine wpAnyH_ready (rs := [6, 8]) (by kernel_rfl) (by simp) ?_
          refine (AllReadyH.cons (o := ⟨some 26, Op.call { callee := Callee.builtin Builtin.append, args := #[(Operand.tmp 21), (Operand.tmp 25)], argTypes := #[50, 50] }, _, _, _, _⟩) rfl (fun K hK => ?_) (AllReadyH.cons (o := ⟨some 28, Op.buildSlice 50 1 #[(0, (Operand.tmp 27))], _, _, _, _⟩) rfl (fun K hK => ?_) AllReadyH.nil))
          · skip
            refine step_append_sl rfl (.tmp 21) (.tmp 25) 50 50 rfl 37 24 i0 (.agg (na zn)) 112 Tryd.underlying50 hi hz0 hz1 hz2 zn_cells (.slice (some ⟨wy.heap.size, 0, none⟩) 0 0) 0 [] rfl HS1.out ns.length (flat nt ns) ((HRZ.out.grown HG1.out).sl.src Tryd.underlying50 (nflat_one ns)) (by have := HL.out; unfold maxLen; omega) (by have := HL.out; omega) ?_
            intro v3 w103 hsl3 hgr3 hnx3
            rw [Nat.zero_add, List.nil_append] at hsl3
            have HG3 : Hid (wz.grownBy w103 none) := Lib.hid (grown_newO HG1.out (fun k e => by cases e; exact HB1.out) hgr3)
            have HT3 : Hid (Sl w103 37 24 v3 ns.length (flat nt ns)) := Lib.hid hsl3
            have HV3 : Hid (∀ k, v3.ownBlock = some k → wz.heap.size ≤ k) := Lib.hid (hnx3.ge HG1.out.size (fun k e => by cases e; exact HB1.out))
            clear hgr3 hnx3 hsl3
            refine hK.out _ _ (HX.out _ (grown_trans HZ.out HG3.out)) (fun hHeld => ?_)
            clear hK K
            try simp only [Act.put, List.setIfInBounds_toArray, List.set_cons_zero, List.set_cons_succ]
            refine wpAnyH_ready (rs := [8]) (by kernel_rfl) (by simp) ?_
            refine (AllReadyH.cons (o := ⟨some 28, Op.buildSlice 50 1 #[(0, (Operand.tmp 27))], _, _, _, _⟩) rfl (fun K hK => ?_) AllReadyH.nil)
            · skip
              have HG4 : Hid (wz.grownBy (w103.alloc (.cells (na n) 37)) none) := Lib.hid (grown_alloc HG3.out _)
              have HH4 : Hid ((w103.alloc (.cells (na n) 37)).heap[w103.heap.size]? = some (.cells (na n) 37 (0, 0))) := Lib.hid (by have := heap_alloc_new w103 (.cells (na n) 37); exact this)
              have HT4 := Lib.hid (HT3.out.grown (grown_alloc (grown_refl w103 none) (.cells (na n) 37)))
              go_simp
              refine hK.out _ _ (HX.out _ (grown_trans HZ.out HG4.out)) (fun hHeld => ?_)
              clear hK K
              try simp only [Act.put, List.setIfInBounds_toArray, List.set_cons_zero, List.set_cons_succ]
              refine wpAnyH_ready (rs := [9]) (by kernel_rfl) (by simp) ?_
              refine (AllReadyH.cons (o := ⟨some 29, Op.call { callee := Callee.builtin Builtin.append, args := #[(Operand.tmp 26), (Operand.tmp 28)], argTypes := #[50, 50] }, _, _, _, _⟩) rfl (fun K hK => ?_) AllReadyH.nil)
              · skip
                refine step_append_sl rfl (.tmp 26) (.tmp 28) 50 50 rfl 37 24 i0 (.agg (na zn)) 112 Tryd.underlying50 hi hz0 hz1 hz2 zn_cells v3 ns.length (flat nt ns) rfl HT4.out 1 (nt n) (src_one' _ (w103.heap.size) (na n) _ (nt n) 24 Tryd.underlying50 HH4.out rfl (nt_len n) (nt_one n)) (by have := HL.out; unfold maxLen; omega) (by have := HL.out; omega) ?_
                intro v5 w105 hsl5 hgr5 hnx5
                obtain ⟨ad5, cap5, rfl⟩ := hsl5.form
                have HG5 : Hid (wz.grownBy w105 none) := Lib.hid (grown_newO HG4.out HV3.out hgr5)
                have HT5 := Lib.hid hsl5
                have HV5 := Lib.hid (hnx5.ge HG4.out.size HV3.out)
                clear hgr5 hnx5 hsl5
                refine hK.out _ _ (HX.out _ (grown_trans HZ.out HG5.out)) (fun hHeld => ?_)
                clear hK K
                try simp only [Act.put, List.setIfInBounds_toArray, List.set_cons_zero, List.set_cons_succ]
                refine wpAnyH_take (i := 10) (oi := ⟨some 30, Op.nilCheck (Operand.tmp 20), _, _, _, _⟩) (v := ?v6) rfl (by kernel_rfl) (by kernel_rfl) (by kernel_rfl) (fun _ _ _ h => h) (Or.inl ⟨by rfl, ?hy6⟩) (by assumption) ?rest6
                case hy6 => ((intro w0 hSw; go_simp); try (with_reducible rfl))
                try simp only [Act.put, List.setIfInBounds_toArray, List.set_cons_zero, List.set_cons_succ]
                refine wpAnyH_take (i := 11) (oi := ⟨some 31, Op.fieldAddr 52 (Operand.tmp 30) 2, _, _, _, _⟩) (v := ?v7) rfl (by kernel_rfl) (by kernel_rfl) (by kernel_rfl) (fun _ _ _ h => h) (Or.inl ⟨by rfl, ?hy7⟩) (by assumption) ?rest7
                case hy7 => ((intro w0 hSw; go_simp); try (with_reducible rfl))
                try simp only [Act.put, List.setIfInBounds_toArray, List.set_cons_zero, List.set_cons_succ]
                have hc9 := (HRZ.out.grown HG5.out).c9
                have hf9 := (HRZ.out.grown HG5.out).frozen 9
                refine wpAnyH_ready (rs := [12]) (by kernel_rfl) (by simp) ?_
                refine AllReadyH.cons (o := ⟨none, Op.store 50 (Operand.tmp 31) (Operand.tmp 29), _, _, _, _⟩) rfl (fun K hK => ?_) AllReadyH.nil
                go_simp
                refine hK.out _ _ (HLD.out _ _ _ (range_set (range_grown HNZ.out HG5.out (by simp)) HNQ.out)) (fun hHeld => ?_)
                clear hK K
                try simp only [Act.put, List.setIfInBounds_toArray, List.set_cons_zero, List.set_cons_succ]
                refine wpAnyH_done (by kernel_rfl) ?_ _
                go_wp2_with fail
                go_ret
                exact ⟨rfl, _, (HRZ.out.grown HG5.out).put (snoc_sl HT5.out), grown_set (grown_trans HG.out (grown_trans HZ.out HG5.out)), fun k hk => Nat.le_trans (Nat.le_trans HG.out.size HZ.out.size) (HV5.out k hk)⟩
          · skip
            have HG6 : Hid (wz.grownBy ((wy.alloc (.cells #[] 37)).alloc (.cells (na n) 37)) none) := Lib.hid (grown_alloc HG1.out _)
            have HH6 : Hid (((wy.alloc (.cells #[] 37)).alloc (.cells (na n) 37)).heap[wy.heap.size + 1]? = some (.cells (na n) 37 (0, 0))) := Lib.hid (by have := heap_alloc_new (wy.alloc (.cells #[] 37)) (.cells (na n) 37); rwa [World.size_alloc] at this)
            have HS6 := Lib.hid (HS1.out.grown (grown_alloc (grown_refl (wy.alloc (.cells #[] 37)) none) (.cells (na n) 37)))
            go_simp
            refine hK.out _ _ (HX.out _ (grown_trans HZ.out HG6.out)) (fun hHeld => ?_)
            clear hK K
            try simp only [Act.put, List.setIfInBounds_toArray, List.set_cons_zero, List.set_cons_succ]
            refine wpAnyH_ready (rs := [6]) (by kernel_rfl) (by simp) ?_
            refine (AllReadyH.cons (o := ⟨some 26, Op.call { callee := Callee.builtin Builtin.append, args := #[(Operand.tmp 21), (Operand.tmp 25)], argTypes := #[50, 50] }, _, _, _, _⟩) rfl (fun K hK => ?_) AllReadyH.nil)
            · skip
              refine step_append_sl rfl (.tmp 21) (.tmp 25) 50 50 rfl 37 24 i0 (.agg (na zn)) 112 Tryd.underlying50 hi hz0 hz1 hz2 zn_cells (.slice (some ⟨wy.heap.size, 0, none⟩) 0 0) 0 [] rfl HS6.out ns.length (flat nt ns) ((HRZ.out.grown HG6.out).sl.src Tryd.underlying50 (nflat_one ns)) (by have := HL.out; unfold maxLen; omega) (by have := HL.out; omega) ?_
              intro v7 w107 hsl7 hgr7 hnx7
              rw [Nat.zero_add, List.nil_append] at hsl7
              have HG7 : Hid (wz.grownBy w107 none) := Lib.hid (grown_newO HG6.out (fun k e => by cases e; exact HB1.out) hgr7)
              have HT7 : Hid (Sl w107 37 24 v7 ns.length (flat nt ns)) := Lib.hid hsl7
              have HV7 : Hid (∀ k, v7.ownBlock = some k → wz.heap.size ≤ k) := Lib.hid (hnx7.ge HG6.out.size (fun k e => by cases e; exact HB1.out))
              have HH7 := Lib.hid ((hgr7.block _ (lt_of HH6.out) (by simp [Value.ownBlock])).trans HH6.out)
              clear hgr7 hnx7 hsl7
              refine hK.out _ _ (HX.out _ (grown_trans HZ.out HG7.out)) (fun hHeld => ?_)
              clear hK K
              try simp only [Act.put, List.setIfInBounds_toArray, List.set_cons_zero, List.set_cons_succ]
              refine wpAnyH_ready (rs := [9]) (by kernel_rfl) (by simp) ?_
              refine (AllReadyH.cons (o := ⟨some 29, Op.call { callee := Callee.builtin Builtin.append, args := #[(Operand.tmp 26), (Operand.tmp 28)], argTypes := #[50, 50] }, _, _, _, _⟩) rfl (fun K hK => ?_) AllReadyH.nil)
              · skip
                refine step_append_sl rfl (.tmp 26) (.tmp 28) 50 50 rfl 37 24 i0 (.agg (na zn)) 112 Tryd.underlying50 hi hz0 hz1 hz2 zn_cells v7 ns.length (flat nt ns) rfl HT7.out 1 (nt n) (src_one' _ (wy.heap.size + 1) (na n) _ (nt n) 24 Tryd.underlying50 HH7.out rfl (nt_len n) (nt_one n)) (by have := HL.out; unfold maxLen; omega) (by have := HL.out; omega) ?_
                intro v8 w108 hsl8 hgr8 hnx8
                obtain ⟨ad8, cap8, rfl⟩ := hsl8.form
                have HG8 : Hid (wz.grownBy w108 none) := Lib.hid (grown_newO HG7.out HV7.out hgr8)
                have HT8 := Lib.hid hsl8
                have HV8 := Lib.hid (hnx8.ge HG7.out.size HV7.out)
                clear hgr8 hnx8 hsl8
                refine hK.out _ _ (HX.out _ (grown_trans HZ.out HG8.out)) (fun hHeld => ?_)
                clear hK K
                try simp only [Act.put, List.setIfInBounds_toArray, List.set_cons_zero, List.set_cons_succ]
                refine wpAnyH_take (i := 10) (oi := ⟨some 30, Op.nilCheck (Operand.tmp 20), _, _, _, _⟩) (v := ?v8) rfl (by kernel_rfl) (by kernel_rfl) (by kernel_rfl) (fun _ _ _ h => h) (Or.inl ⟨by rfl, ?hy8⟩) (by assumption) ?rest8
                case hy8 => ((intro w0 hSw; go_simp); try (with_reducible rfl))
                try simp only [Act.put, List.setIfInBounds_toArray, List.set_cons_zero, List.set_cons_succ]
                refine wpAnyH_take (i := 11) (oi := ⟨some 31, Op.fieldAddr 52 (Operand.tmp 30) 2, _, _, _, _⟩) (v := ?v9) rfl (by kernel_rfl) (by kernel_rfl) (by kernel_rfl) (fun _ _ _ h => h) (Or.inl ⟨by rfl, ?hy9⟩) (by assumption) ?rest9
                case hy9 => ((intro w0 hSw; go_simp); try (with_reducible rfl))
                try simp only [Act.put, List.setIfInBounds_toArray, List.set_cons_zero, List.set_cons_succ]
                have hc9 := (HRZ.out.grown HG8.out).c9
                have hf9 := (HRZ.out.grown HG8.out).frozen 9
                refine wpAnyH_ready (rs := [12]) (by kernel_rfl) (by simp) ?_
                refine AllReadyH.cons (o := ⟨none, Op.store 50 (Operand.tmp 31) (Operand.tmp 29), _, _, _, _⟩) rfl (fun K hK => ?_) AllReadyH.nil
                go_simp
                refine hK.out _ _ (HLD.out _ _ _ (range_set (range_grown HNZ.out HG8.out (by simp)) HNQ.out)) (fun hHeld => ?_)
                clear hK K
                try simp only [Act.put, List.setIfInBounds_toArray, List.set_cons_zero, List.set_cons_succ]
                refine wpAnyH_done (by kernel_rfl) ?_ _
                go_wp2_with fail
                go_ret
                exact ⟨rfl, _, (HRZ.out.grown HG8.out).put (snoc_sl HT8.out), grown_set (grown_trans HG.out (grown_trans HZ.out HG8.out)), fun k hk => Nat.le_trans (Nat.le_trans HG.out.size HZ.out.size) (HV8.out k hk)⟩
        · skip
          have HG9 : Hid (wz.grownBy ((wy.alloc (.cells #[] 37)).alloc (.cells (na n) 37)) none) := Lib.hid (grown_alloc HG1.out _)
          have HH9 : Hid (((wy.alloc (.cells #[] 37)).alloc (.cells (na n) 37)).heap[wy.heap.size + 1]? = some (.cells (na n) 37 (0, 0))) := Lib.hid (by have := heap_alloc_new (wy.alloc (.cells #[] 37)) (.cells (na n) 37); rwa [World.size_alloc] at this)
          have HS9 := Lib.hid (HS1.out.grown (grown_alloc (grown_refl (wy.alloc (.cells #[] 37)) none) (.cells (na n) 37)))
          go_simp
          refine hK.out _ _ (HX.out _ (grown_trans HZ.out HG9.out)) (fun hHeld => ?_)
          clear hK K
          try simp only [Act.put, List.setIfInBounds_toArray, List.set_cons_zero, List.set_cons_succ]
          refine wpAnyH_ready (rs := [5]) (by kernel_rfl) (by simp) ?_
          refine (AllReadyH.cons (o := ⟨some 25, Op.load 50 (Operand.tmp 24), _, _, _, _⟩) rfl (fun K hK => ?_) AllReadyH.nil)
          · skip
            have hc9 := (HRZ.out.grown HG9.out).c9
            go_simp
            refine hK.out _ _ (HX.out _ (grown_trans HZ.out HG9.out)) (fun hHeld => ?_)
            clear hc9
            clear hK K
            try simp only [Act.put, List.setIfInBounds_toArray, List.set_cons_zero, List.set_cons_succ]
            refine wpAnyH_ready (rs := [6]) (by kernel_rfl) (by simp) ?_
            refine (AllReadyH.cons (o := ⟨some 26, Op.call { callee := Callee.builtin Builtin.append, args := #[(Operand.tmp 21), (Operand.tmp 25)], argTypes := #[50, 50] }, _, _, _, _⟩) rfl (fun K hK => ?_) AllReadyH.nil)
            · skip
              refine step_append_sl rfl (.tmp 21) (.tmp 25) 50 50 rfl 37 24 i0 (.agg (na zn)) 112 Tryd.underlying50 hi hz0 hz1 hz2 zn_cells (.slice (some ⟨wy.heap.size, 0, none⟩) 0 0) 0 [] rfl HS9.out ns.length (flat nt ns) ((HRZ.out.grown HG9.out).sl.src Tryd.underlying50 (nflat_one ns)) (by have := HL.out; unfold maxLen; omega) (by have := HL.out; omega) ?_
              intro v11 w111 hsl11 hgr11 hnx11
              rw [Nat.zero_add, List.nil_append] at hsl11
              have HG11 : Hid (wz.grownBy w111 none) := Lib.hid (grown_newO HG9.out (fun k e => by cases e; exact HB1.out) hgr11)
              have HT11 : Hid (Sl w111 37 24 v11 ns.length (flat nt ns)) := Lib.hid hsl11
              have HV11 : Hid (∀ k, v11.ownBlock = some k → wz.heap.size ≤ k) := Lib.hid (hnx11.ge HG9.out.size (fun k e => by cases e; exact HB1.out))
              have HH11 := Lib.hid ((hgr11.block _ (lt_of HH9.out) (by simp [Value.ownBlock])).trans HH9.out)
              clear hgr11 hnx11 hsl11
              refine hK.out _ _ (HX.out _ (grown_trans HZ.out HG11.out)) (fun hHeld => ?_)
              clear hK K
              try simp only [Act.put, List.setIfInBounds_toArray, List.set_cons_zero, List.set_cons_succ]
              refine wpAnyH_ready (rs := [9]) (by kernel_rfl) (by simp) ?_
              refine (AllReadyH.cons (o := ⟨some 29, Op.call { callee := Callee.builtin Builtin.append, args := #[(Operand.tmp 26), (Operand.tmp 28)], argTypes := #[50, 50] }, _, _, _, _⟩) rfl (fun K hK => ?_) AllReadyH.nil)
              · skip
                refine step_append_sl rfl (.tmp 26) (.tmp 28) 50 50 rfl 37 24 i0 (.agg (na zn)) 112 Tryd.underlying50 hi hz0 hz1 hz2 zn_cells v11 ns.length (flat nt ns) rfl HT11.out 1 (nt n) (src_one' _ (wy.heap.size + 1) (na n) _ (nt n) 24 Tryd.underlying50 HH11.out rfl (nt_len n) (nt_one n)) (by have := HL.out; unfold maxLen; omega) (by have := HL.out; omega) ?_
                intro v12 w112 hsl12 hgr12 hnx12
                obtain ⟨ad12, cap12, rfl⟩ := hsl12.form
                have HG12 : Hid (wz.grownBy w112 none) := Lib.hid (grown_newO HG11.out HV11.out hgr12)
                have HT12 := Lib.hid hsl12
                have HV12 := Lib.hid (hnx12.ge HG11.out.size HV11.out)
                clear hgr12 hnx12 hsl12
                refine hK.out _ _ (HX.out _ (grown_trans HZ.out HG12.out)) (fun hHeld => ?_)
                clear hK K
                try simp only [Act.put, List.setIfInBounds_toArray, List.set_cons_zero, List.set_cons_succ]
                refine wpAnyH_take (i := 10) (oi := ⟨some 30, Op.nilCheck (Operand.tmp 20), _, _, _, _⟩) (v := ?v10) rfl (by kernel_rfl) (by kernel_rfl) (by kernel_rfl) (fun _ _ _ h => h) (Or.inl ⟨by rfl, ?hy10⟩) (by assumption) ?rest10
                case hy10 => ((intro w0 hSw; go_simp); try (with_reducible rfl))
                try simp only [Act.put, List.setIfInBounds_toArray, List.set_cons_zero, List.set_cons_succ]
                refine wpAnyH_take (i := 11) (oi := ⟨some 31, Op.fieldAddr 52 (Operand.tmp 30) 2, _, _, _, _⟩) (v := ?v11) rfl (by kernel_rfl) (by kernel_rfl) (by kernel_rfl) (fun _ _ _ h => h) (Or.inl ⟨by rfl, ?hy11⟩) (by assumption) ?rest11
                case hy11 => ((intro w0 hSw; go_simp); try (with_reducible rfl))
                try simp only [Act.put, List.setIfInBounds_toArray, List.set_cons_zero, List.set_cons_succ]
                have hc9 := (HRZ.out.grown HG12.out).c9
                have hf9 := (HRZ.out.grown HG12.out).frozen 9
                refine wpAnyH_ready (rs := [12]) (by kernel_rfl) (by simp) ?_
                refine AllReadyH.cons (o := ⟨none, Op.store 50 (Operand.tmp 31) (Operand.tmp 29), _, _, _, _⟩) rfl (fun K hK => ?_) AllReadyH.nil
                go_simp
                refine hK.out _ _ (HLD.out _ _ _ (range_set (range_grown HNZ.out HG12.out (by simp)) HNQ.out)) (fun hHeld => ?_)
                clear hK K
                try simp only [Act.put, List.setIfInBounds_toArray, List.set_cons_zero, List.set_cons_succ]
                refine wpAnyH_done (by kernel_rfl) ?_ _
                go_wp2_with fail
                go_ret
                exact ⟨rfl, _, (HRZ.out.grown HG12.out).put (snoc_sl HT12.out), grown_set (grown_trans HG.out (grown_trans HZ.out HG12.out)), fun k hk => Nat.le_trans (Nat.le_trans HG.out.size HZ.out.size) (HV12.out k hk)⟩
      · skip
        have hc9 := (HRZ.out.grown HG0.out).c9
        go_simp
        refine hK.out _ _ (HX.out _ (grown_trans HZ.out HG0.out)) (fun hHeld => ?_)
        clear hc9
        clear hK K
        try simp only [Act.put, List.setIfInBounds_toArray, List.set_cons_zero, List.set_cons_succ]
        refine wpAnyH_ready (rs := [1, 8]) (by kernel_rfl) (by simp) ?_
        refine (AllReadyH.cons (o := ⟨some 21, Op.buildSlice 50 0 #[], _, _, _, _⟩) rfl (fun K hK => ?_) (AllReadyH.cons (o := ⟨some 28, Op.buildSlice 50 1 #[(0, (Operand.tmp 27))], _, _, _, _⟩) rfl (fun K hK => ?_) AllReadyH.nil))
        · skip
          have HG14 : Hid (wz.grownBy (wy.alloc (.cells #[] 37)) none) := Lib.hid (grown_alloc HG0.out _)
          have HS14 : Hid (Sl (wy.alloc (.cells #[] 37)) 37 24 (.slice (some ⟨wy.heap.size, 0, none⟩) 0 0) 0 []) := Lib.hid (by have := Sl.empty wy 37 24; exact this)
          have HB14 : Hid (wz.heap.size ≤ wy.heap.size) := Lib.hid (by have := HG0.out.size; exact this)
          go_simp
          refine hK.out _ _ (HX.out _ (grown_trans HZ.out HG14.out)) (fun hHeld => ?_)
          clear hK K
          try simp only [Act.put, List.setIfInBounds_toArray, List.set_cons_zero, List.set_cons_succ]
          refine wpAnyH_ready (rs := [6, 8]) (by kernel_rfl) (by simp) ?_
          refine (AllReadyH.cons (o := ⟨some 26, Op.call { callee := Callee.builtin Builtin.append, args := #[(Operand.tmp 21), (Operand.tmp 25)], argTypes := #[50, 50] }, _, _, _, _⟩) rfl (fun K hK => ?_) (AllReadyH.cons (o := ⟨some 28, Op.buildSlice 50 1 #[(0, (Operand.tmp 27))], _, _, _, _⟩) rfl (fun K hK => ?_) AllReadyH.nil))
          · skip
            refine step_append_sl rfl (.tmp 21) (.tmp 25) 50 50 rfl 37 24 i0 (.agg (na zn)) 112 Tryd.underlying50 hi hz0 hz1 hz2 zn_cells (.slice (some ⟨wy.heap.size, 0, none⟩) 0 0) 0 [] rfl HS14.out ns.length (flat nt ns) ((HRZ.out.grown HG14.out).sl.src Tryd.underlying50 (nflat_one ns)) (by have := HL.out; unfold maxLen; omega) (by have := HL.out; omega) ?_
            intro v15 w115 hsl15 hgr15 hnx15
            rw [Nat.zero_add, List.nil_append] at hsl15
            have HG15 : Hid (wz.grownBy w115 none) := Lib.hid (grown_newO HG14.out (fun k e => by cases e; exact HB14.out) hgr15)
            have HT15 : Hid (Sl w115 37 24 v15 ns.length (flat nt ns)) := Lib.hid hsl15
            have HV15 : Hid (∀ k, v15.ownBlock = some k → wz.heap.size ≤ k) := Lib.hid (hnx15.ge HG14.out.size (fun k e => by cases e; exact HB14.out))
            clear hgr15 hnx15 hsl15
            refine hK.out _ _ (HX.out _ (grown_trans HZ.out HG15.out)) (fun hHeld => ?_)
            clear hK K
            try simp only [Act.put, List.setIfInBounds_toArray, List.set_cons_zero, List.set_cons_succ]
            refine wpAnyH_ready (rs := [8]) (by kernel_rfl) (by simp) ?_
            refine (AllReadyH.cons (o := ⟨some 28, Op.buildSlice 50 1 #[(0, (Operand.tmp 27))], _, _, _, _⟩) rfl (fun K hK => ?_) AllReadyH.nil)
            · skip
              have HG16 : Hid (wz.grownBy (w115.alloc (.cells (na n) 37)) none) := Lib.hid (grown_alloc HG15.out _)
              have HH16 : Hid ((w115.alloc (.cells (na n) 37)).heap[w115.heap.size]? = some (.cells (na n) 37 (0, 0))) := Lib.hid (by have := heap_alloc_new w115 (.cells (na n) 37); exact this)
              have HT16 := Lib.hid (HT15.out.grown (grown_alloc (grown_refl w115 none) (.cells (na n) 37)))
              go_simp
              refine hK.out _ _ (HX.out _ (grown_trans HZ.out HG16.out)) (fun hHeld => ?_)
              clear hK K
              try simp only [Act.put, List.setIfInBounds_toArray, List.set_cons_zero, List.set_cons_succ]
              refine wpAnyH_ready (rs := [9]) (by kernel_rfl) (by simp) ?_
              refine (AllReadyH.cons (o := ⟨some 29, Op.call { callee := Callee.builtin Builtin.append, args := #[(Operand.tmp 26), (Operand.tmp 28)], argTypes := #[50, 50] }, _, _, _, _⟩) rfl (fun K hK => ?_) AllReadyH.nil)
              · skip
                refine step_append_sl rfl (.tmp 26) (.tmp 28) 50 50 rfl 37 24 i0 (.agg (na zn)) 112 Tryd.underlying50 hi hz0 hz1 hz2 zn_cells v15 ns.length (flat nt ns) rfl HT16.out 1 (nt n) (src_one' _ (w115.heap.size) (na n) _ (nt n) 24 Tryd.underlying50 HH16.out rfl (nt_len n) (nt_one n)) (by have := HL.out; unfold maxLen; omega) (by have := HL.out; omega) ?_
                intro v17 w117 hsl17 hgr17 hnx17
                obtain ⟨ad17, cap17, rfl⟩ := hsl17.form
                have HG17 : Hid (wz.grownBy w117 none) := Lib.hid (grown_newO HG16.out HV15.out hgr17)
                have HT17 := Lib.hid hsl17
                have HV17 := Lib.hid (hnx17.ge HG16.out.size HV15.out)
                clear hgr17 hnx17 hsl17
                refine hK.out _ _ (HX.out _ (grown_trans HZ.out HG17.out)) (fun hHeld => ?_)
                clear hK K
                try simp only [Act.put, List.setIfInBounds_toArray, List.set_cons_zero, List.set_cons_succ]
                refine wpAnyH_take (i := 10) (oi := ⟨some 30, Op.nilCheck (Operand.tmp 20), _, _, _, _⟩) (v := ?v12) rfl (by kernel_rfl) (by kernel_rfl) (by kernel_rfl) (fun _ _ _ h => h) (Or.inl ⟨by rfl, ?hy12⟩) (by assumption) ?rest12
                case hy12 => ((intro w0 hSw; go_simp); try (with_reducible rfl))
                try simp only [Act.put, List.setIfInBounds_toArray, List.set_cons_zero, List.set_cons_succ]
                refine wpAnyH_take (i := 11) (oi := ⟨some 31, Op.fieldAddr 52 (Operand.tmp 30) 2, _, _, _, _⟩) (v := ?v13) rfl (by kernel_rfl) (by kernel_rfl) (by kernel_rfl) (fun _ _ _ h => h) (Or.inl ⟨by rfl, ?hy13⟩) (by assumption) ?rest13
                case hy13 => ((intro w0 hSw; go_simp); try (with_reducible rfl))
                try simp only [Act.put, List.setIfInBounds_toArray, List.set_cons_zero, List.set_cons_succ]
                have hc9 := (HRZ.out.grown HG17.out).c9
                have hf9 := (HRZ.out.grown HG17.out).frozen 9
                refine wpAnyH_ready (rs := [12]) (by kernel_rfl) (by simp) ?_
                refine AllReadyH.cons (o := ⟨none, Op.store 50 (Operand.tmp 31) (Operand.tmp 29), _, _, _, _⟩) rfl (fun K hK => ?_) AllReadyH.nil
                go_simp
                refine hK.out _ _ (HLD.out _ _ _ (range_set (range_grown HNZ.out HG17.out (by simp)) HNQ.out)) (fun hHeld => ?_)
                clear hK K
                try simp only [Act.put, List.setIfInBounds_toArray, List.set_cons_zero, List.set_cons_succ]
                refine wpAnyH_done (by kernel_rfl) ?_ _
                go_wp2_with fail
                go_ret
                exact ⟨rfl, _, (HRZ.out.grown HG17.out).put (snoc_sl HT17.out), grown_set (grown_trans HG.out (grown_trans HZ.out HG17.out)), fun k hk => Nat.le_trans (Nat.le_trans HG.out.size HZ.out.size) (HV17.out k hk)⟩
          · skip
            have HG18 : Hid (wz.grownBy ((wy.alloc (.cells #[] 37)).alloc (.cells (na n) 37)) none) := Lib.hid (grown_alloc HG14.out _)
            have HH18 : Hid (((wy.alloc (.cells #[] 37)).alloc (.cells (na n) 37)).heap[wy.heap.size + 1]? = some (.cells (na n) 37 (0, 0))) := Lib.hid (by have := heap_alloc_new (wy.alloc (.cells #[] 37)) (.cells (na n) 37); rwa [World.size_alloc] at this)
            have HS18 := Lib.hid (HS14.out.grown (grown_alloc (grown_refl (wy.alloc (.cells #[] 37)) none) (.cells (na n) 37)))
            go_simp
            refine hK.out _ _ (HX.out _ (grown_trans HZ.out HG18.out)) (fun hHeld => ?_)
            clear hK K
            try simp only [Act.put, List.setIfInBounds_toArray, List.set_cons_zero, List.set_cons_succ]
            refine wpAnyH_ready (rs := [6]) (by kernel_rfl) (by simp) ?_
            refine (AllReadyH.cons (o := ⟨some 26, Op.call { callee := Callee.builtin Builtin.append, args := #[(Operand.tmp 21), (Operand.tmp 25)], argTypes := #[50, 50] }, _, _, _, _⟩) rfl (fun K hK => ?_) AllReadyH.nil)
            · skip
              refine step_append_sl rfl (.tmp 21) (.tmp 25) 50 50 rfl 37 24 i0 (.agg (na zn)) 112 Tryd.underlying50 hi hz0 hz1 hz2 zn_cells (.slice (some ⟨wy.heap.size, 0, none⟩) 0 0) 0 [] rfl HS18.out ns.length (flat nt ns) ((HRZ.out.grown HG18.out).sl.src Tryd.underlying50 (nflat_one ns)) (by have := HL.out; unfold maxLen; omega) (by have := HL.out; omega) ?_
              intro v19 w119 hsl19 hgr19 hnx19
              rw [Nat.zero_add, List.nil_append] at hsl19
              have HG19 : Hid (wz.grownBy w119 none) := Lib.hid (grown_newO HG18.out (fun k e => by cases e; exact HB14.out) hgr19)
              have HT19 : Hid (Sl w119 37 24 v19 ns.length (flat nt ns)) := Lib.hid hsl19
              have HV19 : Hid (∀ k, v19.ownBlock = some k → wz.heap.size ≤ k) := Lib.hid (hnx19.ge HG18.out.size (fun k e => by cases e; exact HB14.out))
              have HH19 := Lib.hid ((hgr19.block _ (lt_of HH18.out) (by simp [Value.ownBlock])).trans HH18.out)
              clear hgr19 hnx19 hsl19
              refine hK.out _ _ (HX.out _ (grown_trans HZ.out HG19.out)) (fun hHeld => ?_)
              clear hK K
              try simp only [Act.put, List.setIfInBounds_toArray, List.set_cons_zero, List.set_cons_succ]
              refine wpAnyH_ready (rs := [9]) (by kernel_rfl) (by simp) ?_
              refine (AllReadyH.cons (o := ⟨some 29, Op.call { callee := Callee.builtin Builtin.append, args := #[(Operand.tmp 26), (Operand.tmp 28)], argTypes := #[50, 50] }, _, _, _, _⟩) rfl (fun K hK => ?_) AllReadyH.nil)
              · skip
                refine step_append_sl rfl (.tmp 26) (.tmp 28) 50 50 rfl 37 24 i0 (.agg (na zn)) 112 Tryd.underlying50 hi hz0 hz1 hz2 zn_cells v19 ns.length (flat nt ns) rfl HT19.out 1 (nt n) (src_one' _ (wy.heap.size + 1) (na n) _ (nt n) 24 Tryd.underlying50 HH19.out rfl (nt_len n) (nt_one n)) (by have := HL.out; unfold maxLen; omega) (by have := HL.out; omega) ?_
                intro v20 w120 hsl20 hgr20 hnx20
                obtain ⟨ad20, cap20, rfl⟩ := hsl20.form
                have HG20 : Hid (wz.grownBy w120 none) := Lib.hid (grown_newO HG19.out HV19.out hgr20)
                have HT20 := Lib.hid hsl20
                have HV20 := Lib.hid (hnx20.ge HG19.out.size HV19.out)
                clear hgr20 hnx20 hsl20
                refine hK.out _ _ (HX.out _ (grown_trans HZ.out HG20.out)) (fun hHeld => ?_)
                clear hK K
                try simp only [Act.put, List.setIfInBounds_toArray, List.set_cons_zero, List.set_cons_succ]
                refine wpAnyH_take (i := 10) (oi := ⟨some 30, Op.nilCheck (Operand.tmp 20), _, _, _, _⟩) (v := ?v14) rfl (by kernel_rfl) (by kernel_rfl) (by kernel_rfl) (fun _ _ _ h => h) (Or.inl ⟨by rfl, ?hy14⟩) (by assumption) ?rest14
                case hy14 => ((intro w0 hSw; go_simp); try (with_reducible rfl))
                try simp only [Act.put, List.setIfInBounds_toArray, List.set_cons_zero, List.set_cons_succ]
                refine wpAnyH_take (i := 11) (oi := ⟨some 31, Op.fieldAddr 52 (Operand.tmp 30) 2, _, _, _, _⟩) (v := ?v15) rfl (by kernel_rfl) (by kernel_rfl) (by kernel_rfl) (fun _ _ _ h => h) (Or.inl ⟨by rfl, ?hy15⟩) (by assumption) ?rest15
                case hy15 => ((intro w0 hSw; go_simp); try (with_reducible rfl))
                try simp only [Act.put, List.setIfInBounds_toArray, List.set_cons_zero, List.set_cons_succ]
                have hc9 := (HRZ.out.grown HG20.out).c9
                have hf9 := (HRZ.out.grown HG20.out).frozen 9
                refine wpAnyH_ready (rs := [12]) (by kernel_rfl) (by simp) ?_
                refine AllReadyH.cons (o := ⟨none, Op.store 50 (Operand.tmp 31) (Operand.tmp 29), _, _, _, _⟩) rfl (fun K hK => ?_) AllReadyH.nil
                go_simp
                refine hK.out _ _ (HLD.out _ _ _ (range_set (range_grown HNZ.out HG20.out (by simp)) HNQ.out)) (fun hHeld => ?_)
                clear hK K
                try simp only [Act.put, List.setIfInBounds_toArray, List.set_cons_zero, List.set_cons_succ]
                refine wpAnyH_done (by kernel_rfl) ?_ _
                go_wp2_with fail
                go_ret
                exact ⟨rfl, _, (HRZ.out.grown HG20.out).put (snoc_sl HT20.out), grown_set (grown_trans HG.out (grown_trans HZ.out HG20.out)), fun k hk => Nat.le_trans (Nat.le_trans HG.out.size HZ.out.size) (HV20.out k hk)⟩
        · skip
          have HG21 : Hid (wz.grownBy (wy.alloc (.cells (na n) 37)) none) := Lib.hid (grown_alloc HG0.out _)
          have HH21 : Hid ((wy.alloc (.cells (na n) 37)).heap[wy.heap.size]? = some (.cells (na n) 37 (0, 0))) := Lib.hid (by have := heap_alloc_new wy (.cells (na n) 37); exact this)
          go_simp
          refine hK.out _ _ (HX.out _ (grown_trans HZ.out HG21.out)) (fun hHeld => ?_)
          clear hK K
          try simp only [Act.put, List.setIfInBounds_toArray, List.set_cons_zero, List.set_cons_succ]
          refine wpAnyH_ready (rs := [1]) (by kernel_rfl) (by simp) ?_
          refine (AllReadyH.cons (o := ⟨some 21, Op.buildSlice 50 0 #[], _, _, _, _⟩) rfl (fun K hK => ?_) AllReadyH.nil)
          · skip
            have HG22 : Hid (wz.grownBy ((wy.alloc (.cells (na n) 37)).alloc (.cells #[] 37)) none) := Lib.hid (grown_alloc HG21.out _)
            have HS22 : Hid (Sl ((wy.alloc (.cells (na n) 37)).alloc (.cells #[] 37)) 37 24 (.slice (some ⟨wy.heap.size + 1, 0, none⟩) 0 0) 0 []) := Lib.hid (by have := Sl.empty (wy.alloc (.cells (na n) 37)) 37 24; rwa [World.size_alloc] at this)
            have HB22 : Hid (wz.heap.size ≤ wy.heap.size + 1) := Lib.hid (by have := HG21.out.size; rwa [World.size_alloc] at this)
            have HH22 := Lib.hid ((Below.heap_alloc (wy.alloc (.cells (na n) 37)) (.cells #[] 37) _ (lt_of HH21.out)).trans HH21.out)
            go_simp
            refine hK.out _ _ (HX.out _ (grown_trans HZ.out HG22.out)) (fun hHeld => ?_)
            clear hK K
            try simp only [Act.put, List.setIfInBounds_toArray, List.set_cons_zero, List.set_cons_succ]
            refine wpAnyH_ready (rs := [6]) (by kernel_rfl) (by simp) ?_
            refine (AllReadyH.cons (o := ⟨some 26, Op.call { callee := Callee.builtin Builtin.append, args := #[(Operand.tmp 21), (Operand.tmp 25)], argTypes := #[50, 50] }, _, _, _, _⟩) rfl (fun K hK => ?_) AllReadyH.nil)
            · skip
              refine step_append_sl rfl (.tmp 21) (.tmp 25) 50 50 rfl 37 24 i0 (.agg (na zn)) 112 Tryd.underlying50 hi hz0 hz1 hz2 zn_cells (.slice (some ⟨wy.heap.size + 1, 0, none⟩) 0 0) 0 [] rfl HS22.out ns.length (flat nt ns) ((HRZ.out.grown HG22.out).sl.src Tryd.underlying50 (nflat_one ns)) (by have := HL.out; unfold maxLen; omega) (by have := HL.out; omega) ?_
              intro v23 w123 hsl23 hgr23 hnx23
              rw [Nat.zero_add, List.nil_append] at hsl23
              have HG23 : Hid (wz.grownBy w123 none) := Lib.hid (grown_newO HG22.out (fun k e => by cases e; exact HB22.out) hgr23)
              have HT23 : Hid (Sl w123 37 24 v23 ns.length (flat nt ns)) := Lib.hid hsl23
              have HV23 : Hid (∀ k, v23.ownBlock = some k → wz.heap.size ≤ k) := Lib.hid (hnx23.ge HG22.out.size (fun k e => by cases e; exact HB22.out))
              have HH23 := Lib.hid ((hgr23.block _ (lt_of HH22.out) (by simp [Value.ownBlock])).trans HH22.out)
              clear hgr23 hnx23 hsl23
              refine hK.out _ _ (HX.out _ (grown_trans HZ.out HG23.out)) (fun hHeld => ?_)
              clear hK K
              try simp only [Act.put, List.setIfInBounds_toArray, List.set_cons_zero, List.set_cons_succ]
              refine wpAnyH_ready (rs := [9]) (by kernel_rfl) (by simp) ?_
              refine (AllReadyH.cons (o := ⟨some 29, Op.call { callee := Callee.builtin Builtin.append, args := #[(Operand.tmp 26), (Operand.tmp 28)], argTypes := #[50, 50] }, _, _, _, _⟩) rfl (fun K hK => ?_) AllReadyH.nil)
              · skip
                refine step_append_sl rfl (.tmp 26) (.tmp 28) 50 50 rfl 37 24 i0 (.agg (na zn)) 112 Tryd.underlying50 hi hz0 hz1 hz2 zn_cells v23 ns.length (flat nt ns) rfl HT23.out 1 (nt n) (src_one' _ (wy.heap.size) (na n) _ (nt n) 24 Tryd.underlying50 HH23.out rfl (nt_len n) (nt_one n)) (by have := HL.out; unfold maxLen; omega) (by have := HL.out; omega) ?_
                intro v24 w124 hsl24 hgr24 hnx24
                obtain ⟨ad24, cap24, rfl⟩ := hsl24.form
                have HG24 : Hid (wz.grownBy w124 none) := Lib.hid (grown_newO HG23.out HV23.out hgr24)
                have HT24 := Lib.hid hsl24
                have HV24 := Lib.hid (hnx24.ge HG23.out.size HV23.out)
                clear hgr24 hnx24 hsl24
                refine hK.out _ _ (HX.out _ (grown_trans HZ.out HG24.out)) (fun hHeld => ?_)
                clear hK K
                try simp only [Act.put, List.setIfInBounds_toArray, List.set_cons_zero, List.set_cons_succ]
                refine wpAnyH_take (i := 10) (oi := ⟨some 30, Op.nilCheck (Operand.tmp 20), _, _, _, _⟩) (v := ?v16) rfl (by kernel_rfl) (by kernel_rfl) (by kernel_rfl) (fun _ _ _ h => h) (Or.inl ⟨by rfl, ?hy16⟩) (by assumption) ?rest16
                case hy16 => ((intro w0 hSw; go_simp); try (with_reducible rfl))
                try simp only [Act.put, List.setIfInBounds_toArray, List.set_cons_zero, List.set_cons_succ]
                refine wpAnyH_take (i := 11) (oi := ⟨some 31, Op.fieldAddr 52 (Operand.tmp 30) 2, _, _, _, _⟩) (v := ?v17) rfl (by kernel_rfl) (by kernel_rfl) (by kernel_rfl) (fun _ _ _ h => h) (Or.inl ⟨by rfl, ?hy17⟩) (by assumption) ?rest17
                case hy17 => ((intro w0 hSw; go_simp); try (with_reducible rfl))
                try simp only [Act.put, List.setIfInBounds_toArray, List.set_cons_zero, List.set_cons_succ]
                have hc9 := (HRZ.out.grown HG24.out).c9
                have hf9 := (HRZ.out.grown HG24.out).frozen 9
                refine wpAnyH_ready (rs := [12]) (by kernel_rfl) (by simp) ?_
                refine AllReadyH.cons (o := ⟨none, Op.store 50 (Operand.tmp 31) (Operand.tmp 29), _, _, _, _⟩) rfl (fun K hK => ?_) AllReadyH.nil
                go_simp
                refine hK.out _ _ (HLD.out _ _ _ (range_set (range_grown HNZ.out HG24.out (by simp)) HNQ.out)) (fun hHeld => ?_)
                clear hK K
                try simp only [Act.put, List.setIfInBounds_toArray, List.set_cons_zero, List.set_cons_succ]
                refine wpAnyH_done (by kernel_rfl) ?_ _
                go_wp2_with fail
                go_ret
                exact ⟨rfl, _, (HRZ.out.grown HG24.out).put (snoc_sl HT24.out), grown_set (grown_trans HG.out (grown_trans HZ.out HG24.out)), fun k hk => Nat.le_trans (Nat.le_trans HG.out.size HZ.out.size) (HV24.out k hk)⟩
      · skip
        have HG25 : Hid (wz.grownBy (wy.alloc (.cells (na n) 37)) none) := Lib.hid (grown_alloc HG0.out _)
        have HH25 : Hid ((wy.alloc (.cells (na n) 37)).heap[wy.heap.size]? = some (.cells (na n) 37 (0, 0))) := Lib.hid (by have := heap_alloc_new wy (.cells (na n) 37); exact this)
        go_simp
        refine hK.out _ _ (HX.out _ (grown_trans HZ.out HG25.out)) (fun hHeld => ?_)
        clear hK K
        try simp only [Act.put, List.setIfInBounds_toArray, List.set_cons_zero, List.set_cons_succ]
        refine wpAnyH_ready (rs := [1, 5]) (by kernel_rfl) (by simp) ?_
        refine (AllReadyH.cons (o := ⟨some 21, Op.buildSlice 50 0 #[], _, _, _, _⟩) rfl (fun K hK => ?_) (AllReadyH.cons (o := ⟨some 25, Op.load 50 (Operand.tmp 24), _, _, _, _⟩) rfl (fun K hK => ?_) AllReadyH.nil))
        · skip
          have HG26 : Hid (wz.grownBy ((wy.alloc (.cells (na n) 37)).alloc (.cells #[] 37)) none) := Lib.hid (grown_alloc HG25.out _)
          have HS26 : Hid (Sl ((wy.alloc (.cells (na n) 37)).alloc (.cells #[] 37)) 37 24 (.slice (some ⟨wy.heap.size + 1, 0, none⟩) 0 0) 0 []) := Lib.hid (by have := Sl.empty (wy.alloc (.cells (na n) 37)) 37 24; rwa [World.size_alloc] at this)
          have HB26 : Hid (wz.heap.size ≤ wy.heap.size + 1) := Lib.hid (by have := HG25.out.size; rwa [World.size_alloc] at this)
          have HH26 := Lib.hid ((Below.heap_alloc (wy.alloc (.cells (na n) 37)) (.cells #[] 37) _ (lt_of HH25.out)).trans HH25.out)
          go_simp
          refine hK.out _ _ (HX.out _ (grown_trans HZ.out HG26.out)) (fun hHeld => ?_)
          clear hK K
          try simp only [Act.put, List.setIfInBounds_toArray, List.set_cons_zero, List.set_cons_succ]
          refine wpAnyH_ready (rs := [5]) (by kernel_rfl) (by simp) ?_
          refine (AllReadyH.cons (o := ⟨some 25, Op.load 50 (Operand.tmp 24), _, _, _, _⟩) rfl (fun K hK => ?_) AllReadyH.nil)
          · skip
            have hc9 := (HRZ.out.grown HG26.out).c9
            go_simp
            refine hK.out _ _ (HX.out _ (grown_trans HZ.out HG26.out)) (fun hHeld => ?_)
            clear hc9
            clear hK K
            try simp only [Act.put, List.setIfInBounds_toArray, List.set_cons_zero, List.set_cons_succ]
            refine wpAnyH_ready (rs := [6]) (by kernel_rfl) (by simp) ?_
            refine (AllReadyH.cons (o := ⟨some 26, Op.call { callee := Callee.builtin Builtin.append, args := #[(Operand.tmp 21), (Operand.tmp 25)], argTypes := #[50, 50] }, _, _, _, _⟩) rfl (fun K hK => ?_) AllReadyH.nil)
            · skip
              refine step_append_sl rfl (.tmp 21) (.tmp 25) 50 50 rfl 37 24 i0 (.agg (na zn)) 112 Tryd.underlying50 hi hz0 hz1 hz2 zn_cells (.slice (some ⟨wy.heap.size + 1, 0, none⟩) 0 0) 0 [] rfl HS26.out ns.length (flat nt ns) ((HRZ.out.grown HG26.out).sl.src Tryd.underlying50 (nflat_one ns)) (by have := HL.out; unfold maxLen; omega) (by have := HL.out; omega) ?_
              intro v28 w128 hsl28 hgr28 hnx28
              rw [Nat.zero_add, List.nil_append] at hsl28
              have HG28 : Hid (wz.grownBy w128 none) := Lib.hid (grown_newO HG26.out (fun k e => by cases e; exact HB26.out) hgr28)
              have HT28 : Hid (Sl w128 37 24 v28 ns.length (flat nt ns)) := Lib.hid hsl28
              have HV28 : Hid (∀ k, v28.ownBlock = some k → wz.heap.size ≤ k) := Lib.hid (hnx28.ge HG26.out.size (fun k e => by cases e; exact HB26.out))
              have HH28 := Lib.hid ((hgr28.block _ (lt_of HH26.out) (by simp [Value.ownBlock])).trans HH26.out)
              clear hgr28 hnx28 hsl28
              refine hK.out _ _ (HX.out _ (grown_trans HZ.out HG28.out)) (fun hHeld => ?_)
              clear hK K
              try simp only [Act.put, List.setIfInBounds_toArray, List.set_cons_zero, List.set_cons_succ]
              refine wpAnyH_ready (rs := [9]) (by kernel_rfl) (by simp) ?_
              refine (AllReadyH.cons (o := ⟨some 29, Op.call { callee := Callee.builtin Builtin.append, args := #[(Operand.tmp 26), (Operand.tmp 28)], argTypes := #[50, 50] }, _, _, _, _⟩) rfl (fun K hK => ?_) AllReadyH.nil)
              · skip
                refine step_append_sl rfl (.tmp 26) (.tmp 28) 50 50 rfl 37 24 i0 (.agg (na zn)) 112 Tryd.underlying50 hi hz0 hz1 hz2 zn_cells v28 ns.length (flat nt ns) rfl HT28.out 1 (nt n) (src_one' _ (wy.heap.size) (na n) _ (nt n) 24 Tryd.underlying50 HH28.out rfl (nt_len n) (nt_one n)) (by have := HL.out; unfold maxLen; omega) (by have := HL.out; omega) ?_
                intro v29 w129 hsl29 hgr29 hnx29
                obtain ⟨ad29, cap29, rfl⟩ := hsl29.form
                have HG29 : Hid (wz.grownBy w129 none) := Lib.hid (grown_newO HG28.out HV28.out hgr29)
                have HT29 := Lib.hid hsl29
                have HV29 := Lib.hid (hnx29.ge HG28.out.size HV28.out)
                clear hgr29 hnx29 hsl29
                refine hK.out _ _ (HX.out _ (grown_trans HZ.out HG29.out)) (fun hHeld => ?_)
                clear hK K
                try simp only [Act.put, List.setIfInBounds_toArray, List.set_cons_zero, List.set_cons_succ]
                refine wpAnyH_take (i := 10) (oi := ⟨some 30, Op.nilCheck (Operand.tmp 20), _, _, _, _⟩) (v := ?v18) rfl (by kernel_rfl) (by kernel_rfl) (by kernel_rfl) (fun _ _ _ h => h) (Or.inl ⟨by rfl, ?hy18⟩) (by assumption) ?rest18
                case hy18 => ((intro w0 hSw; go_simp); try (with_reducible rfl))
                try simp only [Act.put, List.setIfInBounds_toArray, List.set_cons_zero, List.set_cons_succ]
                refine wpAnyH_take (i := 11) (oi := ⟨some 31, Op.fieldAddr 52 (Operand.tmp 30) 2, _, _, _, _⟩) (v := ?v19) rfl (by kernel_rfl) (by kernel_rfl) (by kernel_rfl) (fun _ _ _ h => h) (Or.inl ⟨by rfl, ?hy19⟩) (by assumption) ?rest19
                case hy19 => ((intro w0 hSw; go_simp); try (with_reducible rfl))
                try simp only [Act.put, List.setIfInBounds_toArray, List.set_cons_zero, List.set_cons_succ]
                have hc9 := (HRZ.out.grown HG29.out).c9
                have hf9 := (HRZ.out.grown HG29.out).frozen 9
                refine wpAnyH_ready (rs := [12]) (by kernel_rfl) (by simp) ?_
                refine AllReadyH.cons (o := ⟨none, Op.store 50 (Operand.tmp 31) (Operand.tmp 29), _, _, _, _⟩) rfl (fun K hK => ?_) AllReadyH.nil
                go_simp
                refine hK.out _ _ (HLD.out _ _ _ (range_set (range_grown HNZ.out HG29.out (by simp)) HNQ.out)) (fun hHeld => ?_)
                clear hK K
                try simp only [Act.put, List.setIfInBounds_toArray, List.set_cons_zero, List.set_cons_succ]
                refine wpAnyH_done (by kernel_rfl) ?_ _
                go_wp2_with fail
                go_ret
                exact ⟨rfl, _, (HRZ.out.grown HG29.out).put (snoc_sl HT29.out), grown_set (grown_trans HG.out (grown_trans HZ.out HG29.out)), fun k hk => Nat.le_trans (Nat.le_trans HG.out.size HZ.out.size) (HV29.out k hk)⟩
        · skip
          have hc9 := (HRZ.out.grown HG25.out).c9
          go_simp
          refine hK.out _ _ (HX.out _ (grown_trans HZ.out HG25.out)) (fun hHeld => ?_)
          clear hc9
          clear hK K
          try simp only [Act.put, List.setIfInBounds_toArray, List.set_cons_zero, List.set_cons_succ]
          refine wpAnyH_ready (rs := [1]) (by kernel_rfl) (by simp) ?_
          refine (AllReadyH.cons (o := ⟨some 21, Op.buildSlice 50 0 #[], _, _, _, _⟩) rfl (fun K hK => ?_) AllReadyH.nil)
          · skip
            have HG31 : Hid (wz.grownBy ((wy.alloc (.cells (na n) 37)).alloc (.cells #[] 37)) none) := Lib.hid (grown_alloc HG25.out _)
            have HS31 : Hid (Sl ((wy.alloc (.cells (na n) 37)).alloc (.cells #[] 37)) 37 24 (.slice (some ⟨wy.heap.size + 1, 0, none⟩) 0 0) 0 []) := Lib.hid (by have := Sl.empty (wy.alloc (.cells (na n) 37)) 37 24; rwa [World.size_alloc] at this)
            have HB31 : Hid (wz.heap.size ≤ wy.heap.size + 1) := Lib.hid (by have := HG25.out.size; rwa [World.size_alloc] at this)
            have HH31 := Lib.hid ((Below.heap_alloc (wy.alloc (.cells (na n) 37)) (.cells #[] 37) _ (lt_of HH25.out)).trans HH25.out)
            go_simp
            refine hK.out _ _ (HX.out _ (grown_trans HZ.out HG31.out)) (fun hHeld => ?_)
            clear hK K
            try simp only [Act.put, List.setIfInBounds_toArray, List.set_cons_zero, List.set_cons_succ]
            refine wpAnyH_ready (rs := [6]) (by kernel_rfl) (by simp) ?_
            refine (AllReadyH.cons (o := ⟨some 26, Op.call { callee := Callee.builtin Builtin.append, args := #[(Operand.tmp 21), (Operand.tmp 25)], argTypes := #[50, 50] }, _, _, _, _⟩) rfl (fun K hK => ?_) AllReadyH.nil)
            · skip
              refine step_append_sl rfl (.tmp 21) (.tmp 25) 50 50 rfl 37 24 i0 (.agg (na zn)) 112 Tryd.underlying50 hi hz0 hz1 hz2 zn_cells (.slice (some ⟨wy.heap.size + 1, 0, none⟩) 0 0) 0 [] rfl HS31.out ns.length (flat nt ns) ((HRZ.out.grown HG31.out).sl.src Tryd.underlying50 (nflat_one ns)) (by have := HL.out; unfold maxLen; omega) (by have := HL.out; omega) ?_
              intro v32 w132 hsl32 hgr32 hnx32
              rw [Nat.zero_add, List.nil_append] at hsl32
              have HG32 : Hid (wz.grownBy w132 none) := Lib.hid (grown_newO HG31.out (fun k e => by cases e; exact HB31.out) hgr32)
              have HT32 : Hid (Sl w132 37 24 v32 ns.length (flat nt ns)) := Lib.hid hsl32
              have HV32 : Hid (∀ k, v32.ownBlock = some k → wz.heap.size ≤ k) := Lib.hid (hnx32.ge HG31.out.size (fun k e => by cases e; exact HB31.out))
              have HH32 := Lib.hid ((hgr32.block _ (lt_of HH31.out) (by simp [Value.ownBlock])).trans HH31.out)
              clear hgr32 hnx32 hsl32
              refine hK.out _ _ (HX.out _ (grown_trans HZ.out HG32.out)) (fun hHeld => ?_)
              clear hK K
              try simp only [Act.put, List.setIfInBounds_toArray, List.set_cons_zero, List.set_cons_succ]
              refine wpAnyH_ready (rs := [9]) (by kernel_rfl) (by simp) ?_
              refine (AllReadyH.cons (o := ⟨some 29, Op.call { callee := Callee.builtin Builtin.append, args := #[(Operand.tmp 26), (Operand.tmp 28)], argTypes := #[50, 50] }, _, _, _, _⟩) rfl (fun K hK => ?_) AllReadyH.nil)
              · skip
                refine step_append_sl rfl (.tmp 26) (.tmp 28) 50 50 rfl 37 24 i0 (.agg (na zn)) 112 Tryd.underlying50 hi hz0 hz1 hz2 zn_cells v32 ns.length (flat nt ns) rfl HT32.out 1 (nt n) (src_one' _ (wy.heap.size) (na n) _ (nt n) 24 Tryd.underlying50 HH32.out rfl (nt_len n) (nt_one n)) (by have := HL.out; unfold maxLen; omega) (by have := HL.out; omega) ?_
                intro v33 w133 hsl33 hgr33 hnx33
                obtain ⟨ad33, cap33, rfl⟩ := hsl33.form
                have HG33 : Hid (wz.grownBy w133 none) := Lib.hid (grown_newO HG32.out HV32.out hgr33)
                have HT33 := Lib.hid hsl33
                have HV33 := Lib.hid (hnx33.ge HG32.out.size HV32.out)
                clear hgr33 hnx33 hsl33
                refine hK.out _ _ (HX.out _ (grown_trans HZ.out HG33.out)) (fun hHeld => ?_)
                clear hK K
                try simp only [Act.put, List.setIfInBounds_toArray, List.set_cons_zero, List.set_cons_succ]
                refine wpAnyH_take (i := 10) (oi := ⟨some 30, Op.nilCheck (Operand.tmp 20), _, _, _, _⟩) (v := ?v20) rfl (by kernel_rfl) (by kernel_rfl) (by kernel_rfl) (fun _ _ _ h => h) (Or.inl ⟨by rfl, ?hy20⟩) (by assumption) ?rest20
                case hy20 => ((intro w0 hSw; go_simp); try (with_reducible rfl))
                try simp only [Act.put, List.setIfInBounds_toArray, List.set_cons_zero, List.set_cons_succ]
                refine wpAnyH_take (i := 11) (oi := ⟨some 31, Op.fieldAddr 52 (Operand.tmp 30) 2, _, _, _, _⟩) (v := ?v21) rfl (by kernel_rfl) (by kernel_rfl) (by kernel_rfl) (fun _ _ _ h => h) (Or.inl ⟨by rfl, ?hy21⟩) (by assumption) ?rest21
                case hy21 => ((intro w0 hSw; go_simp); try (with_reducible rfl))
                try simp only [Act.put, List.setIfInBounds_toArray, List.set_cons_zero, List.set_cons_succ]
                have hc9 := (HRZ.out.grown HG33.out).c9
                have hf9 := (HRZ.out.grown HG33.out).frozen 9
                refine wpAnyH_ready (rs := [12]) (by kernel_rfl) (by simp) ?_
                refine AllReadyH.cons (o := ⟨none, Op.store 50 (Operand.tmp 31) (Operand.tmp 29), _, _, _, _⟩) rfl (fun K hK => ?_) AllReadyH.nil
                go_simp
                refine hK.out _ _ (HLD.out _ _ _ (range_set (range_grown HNZ.out HG33.out (by simp)) HNQ.out)) (fun hHeld => ?_)
                clear hK K
                try simp only [Act.put, List.setIfInBounds_toArray, List.set_cons_zero, List.set_cons_succ]
                refine wpAnyH_done (by kernel_rfl) ?_ _
                go_wp2_with fail
                go_ret
                exact ⟨rfl, _, (HRZ.out.grown HG33.out).put (snoc_sl HT33.out), grown_set (grown_trans HG.out (grown_trans HZ.out HG33.out)), fun k hk => Nat.le_trans (Nat.le_trans HG.out.size HZ.out.size) (HV33.out k hk)⟩
theorem rsend_any : Calls Tryd.prog 21 #[.pointer (some ⟨q, 0, none⟩), .agg (na n)] w fun e w' => e = .returned (.int .i64 (sendE c r ns n)) ∧ ∃ u', RNet w' q c r u' (sendN c r ns n) h ∧ w.grownBy w' (some q) ∧ Next w w' u u' := by
  have up : ∀ w', w.grownBy w' none → w.grownBy w' (some q) := fun w' hg => ⟨hg.os, hg.tape, hg.output, hg.size, fun k hk _ => hg.block k hk (by simp)⟩
  unfold sendE sendN
  by_cases hf : fits c n
  · rw [if_pos hf]
    by_cases hr : many ns n.t (net n.k) < r
    · rw [if_pos hr, if_pos ⟨hf, hr⟩]
      exact (rsend_ok q c r u ns h n w H hm hr2 hl hf hr).mono fun e w' ⟨he, u', h1, h2, h3⟩ => ⟨he, u', h1, h2, .inr h3⟩
    · rw [if_neg hr, if_neg (fun e => hr e.2)]
      exact (rsend_full q c r u ns h n w H hm hr2 hl hf hr).mono fun e w' he => ⟨he.1, u, H.grown he.2, up _ he.2, .inl rfl⟩
  · rw [if_neg hf, if_neg (fun e => hf e.1)]
    exact (rsend_bad q c r u ns h n w H hm hf).mono fun e w' he => ⟨he.1, u, H.grown he.2, up _ he.2, .inl rfl⟩
end
end Go.Proofs.YtoemkhmbeiindaaDoor.tt
