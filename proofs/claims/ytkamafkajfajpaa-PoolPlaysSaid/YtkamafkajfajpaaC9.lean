/-
  The law PoolEarly returns true: the walk. No condition beyond that the list has its values.
-/
import Derived.Test.YtkamafkajfajpaaC7
import Derived.Test.YtkamafkajfajpaaS8
namespace Go.Proofs.Ytkamafkajfajpaa.pp
open Go Go.RowKit Go.Shelf
set_option linter.unusedVariables false
attribute [local go_sem] Oper.semAt_some

theorem allS_in (n : Nat) (b : Nat) (w : World) :
    CallsIn Fence.wide n Try.prog 25 #[.pointer (some ⟨b, 0, none⟩)] w fun e w' => e = .returned (.func (.func 34) #[] #[.pointer (some ⟨w.heap.size, 0, none⟩)]) ∧ w' = w.alloc (.cells #[.pointer (some ⟨b, 0, none⟩)] 48) := ps.all_in n b w

/-- Three variables that are boxed ahead of a call that leaves them alone. -/
theorem three_boxes {w w1 : World} {t1 t2 t3 : TypeId} {v1 v2 v3 : Value} (h : Below (((w.alloc (.cells #[v1] t1)).alloc (.cells #[v2] t2)).alloc (.cells #[v3] t3)).heap.size (((w.alloc (.cells #[v1] t1)).alloc (.cells #[v2] t2)).alloc (.cells #[v3] t3)) w1) :
    (Boxed w1 w.heap.size t1 v1 ∧ Boxed w1 (w.heap.size + 1) t2 v2 ∧ Boxed w1 (w.heap.size + 1 + 1) t3 v3) ∧ w.heap.size + 3 ≤ w1.heap.size ∧ Below w.heap.size w w1 := by
  have b1 := ((Boxed.new w t1 v1).alloc (.cells #[v2] t2)).alloc (.cells #[v3] t3)
  have b2 := (Boxed.new (w.alloc (.cells #[v1] t1)) t2 v2).alloc (.cells #[v3] t3)
  have b3 := Boxed.new ((w.alloc (.cells #[v1] t1)).alloc (.cells #[v2] t2)) t3 v3
  rw [World.size_alloc] at b2
  rw [World.size_alloc, World.size_alloc] at b3
  have hs := h.size
  simp only [World.size_alloc] at hs
  refine ⟨⟨(h.block _ (by simp; omega)).trans b1, (h.block _ (by simp)).trans b2, (h.block _ (by simp)).trans b3⟩, by omega, ?_⟩
  exact ((((Below.refl _ _).alloc (Nat.le_refl _) _).alloc (by simp) _).alloc (by simp; omega) _).trans (h.mono (by simp; omega))

theorem boxes_alloc {w w' : World} {o : Obj} {B1 B2 B3 : Nat} {t1 t2 t3 : TypeId} {v1 v2 v3 : Value} (h1 : Boxed w B1 t1 v1) (h2 : Boxed w B2 t2 v2) (h3 : Boxed w B3 t3 v3) (hw : w' = w.alloc o) :
    Boxed w' B1 t1 v1 ∧ Boxed w' B2 t2 v2 ∧ Boxed w' B3 t3 v3 ∧ w'.heap.size = w.heap.size + 1 := by
  subst hw; exact ⟨h1.alloc _, h2.alloc _, h3.alloc _, by simp⟩
theorem pool_new {w w' : World} {T e : TypeId} {room : Nat} (hw : w' = w.alloc (.cells #[.slice none 0 0, .int .i64 (room : Int)] T)) : Pool w' T e w.heap.size (.slice none 0 0) room [] := by
  subst hw; exact ps.Pool.new w T e room
theorem below_alloc {w0 w w' : World} {n : Nat} {o : Obj} (h : Below n w0 w) (hn : n ≤ w.heap.size) (hw : w' = w.alloc o) : Below n w0 w' := by
  subst hw; exact h.alloc hn _
theorem _root_.Go.Boxed.below {w w' : World} {n B : Nat} {t : TypeId} {v : Value} (h : Boxed w B t v) (hb : Below n w w') (hn : B < n) : Boxed w' B t v := (hb.block B hn).trans h
theorem _root_.Go.Boxed.turn {w w' : World} {b B : Nat} {t : TypeId} {u v v' : Value} (h : Boxed w B t u) (hT : Turn w w' b v v') (hb : B ≠ b) (hv : some B ≠ v.ownBlock) : Boxed w' B t u := (hT.block B (Go.Boxed.lt h) hb hv).trans h

/-- Three boxed variables side by side. -/
def V3 (wr : World) (n : Nat) (t1 t2 t3 : TypeId) (v1 v2 v3 : Value) : Prop := Boxed wr n t1 v1 ∧ Boxed wr (n + 1) t2 v2 ∧ Boxed wr (n + 1 + 1) t3 v3
theorem V3.turn {w w' : World} {b n : Nat} {t1 t2 t3 : TypeId} {u1 u2 u3 v v' : Value} (h : V3 w n t1 t2 t3 u1 u2 u3) (hT : Turn w w' b v v') (hb : n + 3 ≤ b) (hv : ∀ k, v.ownBlock = some k → n + 3 ≤ k) : V3 w' n t1 t2 t3 u1 u2 u3 :=
  ⟨h.1.turn hT (by omega) (fun e => by have := hv _ e.symm; omega), h.2.1.turn hT (by omega) (fun e => by have := hv _ e.symm; omega), h.2.2.turn hT (by omega) (fun e => by have := hv _ e.symm; omega)⟩
theorem V3.below {w w' : World} {m n : Nat} {t1 t2 t3 : TypeId} {u1 u2 u3 : Value} (h : V3 w n t1 t2 t3 u1 u2 u3) (hb : Below m w w') (hn : n + 3 ≤ m) : V3 w' n t1 t2 t3 u1 u2 u3 :=
  ⟨h.1.below hb (by omega), h.2.1.below hb (by omega), h.2.2.below hb (by omega)⟩

/-- How a function ends whose result is a boxed variable: with a range over a function behind it, and without. -/
theorem ends_true {fn : Func} {p : Tmp} {n : Nat} (hres : fn.results = #[.cell p 4]) {tmps : Array Value} {D B : Nat} {w w5 : World} {u : Value} (hr : Boxed w5 B 4 u) (hp : tmps.getD p undef = .pointer (some ⟨B, 0, none⟩)) (hK : w5.heap[D]? = some (.deferred (some []))) (hDB : D ≠ B) (hB : w.heap.size ≤ B) (hD : w.heap.size ≤ D) (hb : Below w.heap.size w w5) :
    bodyPostM Fence.wide n Try.prog fn (fun e w' => e = .returned (.bool true) ∧ Below w.heap.size w w') Exit.ret { tmps := tmps, defers := [{ target := .collected D, args := #[] }] } (w5.setCell ⟨B, 0, none⟩ (.bool true)) := by
  have hK' : (w5.setCell ⟨B, 0, none⟩ (.bool true)).heap[D]? = some (.deferred (some [])) := (Below.heap_setCell _ _ _ _ hDB).trans hK
  have hr' := (hr.set (.bool true)).kept (grownBy_putObj' _ D (.deferred none)) (by simp; omega)
  refine ⟨by simp, .inl ⟨_, _, rfl, run_takeDeferred hK', ?_⟩⟩
  exact ⟨_, results_box hres agg4 _ _ _ _ hp hr'.cell, rfl, (hb.setCell (p := ⟨B, 0, none⟩) hB _).trans (belowK_b (w := w) (Nat.le_refl _) _ D _ _ hD hK' rfl rfl)⟩
theorem ends_true0 {fn : Func} {p : Tmp} {n : Nat} (hres : fn.results = #[.cell p 4]) {tmps : Array Value} {B : Nat} {w w5 : World} {u : Value} (hr : Boxed w5 B 4 u) (hp : tmps.getD p undef = .pointer (some ⟨B, 0, none⟩)) (hB : w.heap.size ≤ B) (hb : Below w.heap.size w w5) :
    bodyPostM Fence.wide n Try.prog fn (fun e w' => e = .returned (.bool true) ∧ Below w.heap.size w w') Exit.ret { tmps := tmps, defers := [] } (w5.setCell ⟨B, 0, none⟩ (.bool true)) :=
  ⟨_, results_box hres agg4 _ _ _ _ hp (hr.set (.bool true)).cell, rfl, hb.setCell (p := ⟨B, 0, none⟩) hB _⟩

theorem snoc_take {α : Type} (l : List α) (k : Nat) (x : α) (h : l[k]? = some x) : l.take k ++ [x] = l.take (k + 1) := (take_snoc l k x h).symm

set_option maxRecDepth 1000000 in
set_option maxHeartbeats 4000000 in
theorem early_some (xs : List ByteArray) (many : Int) (ad : Option Addr) (len cap : Nat) (w : World) (hlen : len = xs.length) (hat : At w ad (xs.map ps.I)) (h300 : len ≤ 300) (h1 : 1 ≤ many) :
    Calls Try.prog 5 #[.slice ad len cap, .int .i64 many] w fun e w' => e = .returned (.bool true) ∧ Below w.heap.size w w' := by
  refine (callsIn_wide (n := 5)).1 ?_
  have HAT := Lib.hid hat
  have HL := Lib.hid hlen
  have HN0 : ∀ w : World, Calls Try.prog 23 #[.int .i64 400] w fun e w' => e = .returned (.tuple #[.pointer (some ⟨w.heap.size, 0, none⟩), .int .i64 0]) ∧ w' = w.alloc (.cells #[.slice none 0 0, .int .i64 ((400 : Nat) : Int)] 69) := fun w => ps.new_ok 400 w (by omega) (by omega)
  have HN := Lib.hid HN0
  clear hat hlen HN0
  refine callsIn_of_wp_marks Try.func5 rfl trivial ?_ rfl
  simp only [Try.ntmps5, List.size_toArray, List.length_cons, List.length_nil, Nat.reduceAdd, Nat.reduceSub, Array.replicate_succ, Array.replicate_zero, List.push_toArray, List.append_toArray, List.nil_append, List.cons_append]
  gi_wp2_with (first
    | (refine ⟨trivial, ?_⟩; gi_at_call 12; refine (callsIn_wide.2 (ps.works_any _)).mono ?_; rintro e w1 ⟨rfl, hb1⟩; obtain ⟨⟨bl, bm, br⟩, hs1, hw1⟩ := three_boxes hb1; have hl := Go.Boxed.cell bl; have hm := Go.Boxed.cell bm; clear hb1)
    | (refine ⟨trivial, ?_⟩; gi_at_call 23; refine (callsIn_wide.2 (HN.out _)).mono ?_; rintro e w2 ⟨rfl, hw2⟩; obtain ⟨bl2, bm2, br2, hs2⟩ := boxes_alloc bl bm br hw2; have hp2 : ps.IPool w2 w1.heap.size (.slice none 0 0) 400 [] := pool_new hw2; have hb2 := below_alloc hw1 (by omega) hw2; have hl2 := Go.Boxed.cell bl2; clear hw2 hl hm bl bm br hw1))
  gi_loopw [30] (fun i wr => ∃ (k : Nat) (v : Value), k ≤ len ∧ i = .int .i64 (k : Int) ∧ V3 wr w.heap.size 47 3 4 (.slice ad len cap) (.int .i64 many) (.bool false) ∧ ps.IPool wr w1.heap.size v 400 (xs.take k) ∧ Below w.heap.size w wr ∧ (∀ j, v.ownBlock = some j → w1.heap.size ≤ j) ∧ w1.heap.size ≤ wr.heap.size) (fun i _ => len - (intOf i).toNat)
  case atStart =>
    exact ⟨0, _, Nat.zero_le _, rfl, ⟨bl2, bm2, br2⟩, hp2, hb2, fun j hj => by simp [Value.ownBlock] at hj, by omega⟩
  case round =>
    clear bl2 bm2 br2 hp2 hb2 hl2 hs2
    obtain ⟨k, v, hk, rfl, hv3, hp, hb, hv, hsr⟩ := hrel
    have HP := Lib.hid hp
    have HB := Lib.hid hb
    have HV := Lib.hid hv
    have HV3 := Lib.hid hv3
    clear hp hb hv
    by_cases hlt : k < len
    · obtain ⟨x, hx⟩ : ∃ x, xs[k]? = some x := ⟨_, List.getElem?_eq_getElem (by have := HL.out; omega)⟩
      obtain ⟨g, off, rfl, hcell⟩ := (HAT.out.below HB.out) k (ps.I x) (by simp [hx])
      have hpu := ps.put_ok _ _ 400 _ x _ HP.out (by rw [List.length_take]; omega) (by omega)
      rw [snoc_take xs k x hx] at hpu
      have HQ := Lib.hid hpu
      unfold ps.I at hcell
      clear hx hpu hv3
      gi_wp2_with (refine ⟨trivial, ?_⟩; gi_at_call 24; refine (callsIn_wide.2 HQ.out).mono ?_; rintro e w3 ⟨rfl, v3, hp3, ht3⟩; have HP3 := Lib.hid hp3; have HT3 := Lib.hid ht3; clear hp3 ht3)
      obtain ⟨hB2, _⟩ := Turn.on HB.out HT3.out (by omega) (by omega) (fun j hj => by have := HV.out j hj; omega)
      have hV2 := HT3.out.next.ge hsr HV.out
      have hs3 := HT3.out.size
      have hv3 := HV3.out.turn HT3.out hs1 (fun j hj => by have := HV.out j hj; omega)
      go_roundw
      case rel => exact ⟨k + 1, v3, by omega, by go_num, hv3, HP3.out, hB2, hV2, by omega⟩
      case measure => simp [intOf]; omega
    · have hkn : k = len := by omega
      subst hkn
      have hl := Go.Boxed.cell hv3.1
      have hm := Go.Boxed.cell hv3.2.1
      have hp' := HP.out
      rw [List.take_of_length_le (by have := HL.out; omega)] at hp'
      have HP' := Lib.hid hp'
      clear hp' HP hv3
      gi_wp2_with (refine ⟨trivial, ?_⟩; gi_at_call 25; refine (ps.all_in _ _ _).mono ?_; rintro e w' ⟨rfl, rfl⟩)
      have bn := Boxed.new wr 3 (.int .i64 0)
      have bp := Boxed.new (wr.alloc (.cells #[.int .i64 0] 3)) 48 (.pointer (some ⟨w1.heap.size, 0, none⟩))
      rw [World.size_alloc] at bp
      have bn' := bn.alloc (.cells #[.pointer (some ⟨w1.heap.size, 0, none⟩)] 48)
      have hK0 : Below wr.heap.size wr ((wr.alloc (.cells #[.int .i64 0] 3)).alloc (.cells #[.pointer (some ⟨w1.heap.size, 0, none⟩)] 48)) := ((Below.refl _ _).alloc (Nat.le_refl _) _).alloc (by simp) _
      obtain ⟨W0, hW0⟩ : ∃ W0, W0 = ((wr.alloc (.cells #[.int .i64 0] 3)).alloc (.cells #[.pointer (some ⟨w1.heap.size, 0, none⟩)] 48)) := ⟨_, rfl⟩
      have hs0 : W0.heap.size = wr.heap.size + 2 := by rw [hW0]; simp
      rw [← hW0] at bp bn' hK0 ⊢
      have hpW : ps.IPool W0 w1.heap.size v 400 xs := HP'.out.of_block (hK0.block _ HP'.out.lt) (fun g hg => hK0.block g (HP'.out.sl.lt g hg))
      have hv3W := HV3.out.below (hK0.mono hsr) hs1
      have hvl : ∀ j, v.ownBlock = some j → j < wr.heap.size := HP'.out.sl.lt
      have hB0 : Below w.heap.size w W0 := HB.out.trans (hK0.mono HB.out.size)
      clear bn hW0
      apply wpIn_rangeFunc_ownF rfl (by omega) (gf := 34) (lb := #[.pointer (some ⟨wr.heap.size + 1, 0, none⟩)]) rfl trivial (enters_of Try.func34 (by kernel_rfl) rfl)
        (ps.fin_stops (5 - 1) (by omega) (wr.heap.size + 1) w1.heap.size v 400 k xs HL.out W0 hpW (by omega) bp.cell) (fun {A B C} => Same.trans) (Same.put (fun j hj => by have := hvl j hj; omega)) (Below.refl _ _) (fun _ => rfl)
        (fun pre W => (V3 W w.heap.size 47 3 4 (.slice ad k cap) (.int .i64 many) (.bool false) ∧ Boxed W wr.heap.size 3 (.int .i64 (pre.length : Int)) ∧ (pre.length : Int) < many) ∧ Below w.heap.size w W)
        (fun c ys W => (c = .exit 2 ∧ V3 W w.heap.size 47 3 4 (.slice ad k cap) (.int .i64 many) (.bool false) ∧ Boxed W wr.heap.size 3 (.int .i64 (ys.length : Int)) ∧ (ys.length : Int) = many) ∧ Below w.heap.size w W)
        (OwnFrom.and (Own.from (fun s A B row hs hg hr => ⟨⟨boxed_own hs.1.1 hg hr, boxed_own hs.1.2.1 hg hr, boxed_own hs.1.2.2 hg hr⟩, boxed_own hs.2.1 hg hr, hs.2.2⟩) _) (ownFrom_below (Nat.le_refl _) (by omega)))
        (fun c' => OwnFrom.and (Own.from (fun s A B row hs hg hr => ⟨hs.1, ⟨boxed_own hs.2.1.1 hg hr, boxed_own hs.2.1.2.1 hg hr, boxed_own hs.2.1.2.2 hg hr⟩, boxed_own hs.2.2.1 hg hr, hs.2.2.2⟩) _) (ownFrom_below (Nat.le_refl _) (by omega)))
        ⟨⟨hv3W, bn', by simp; omega⟩, hB0⟩
      case hassign =>
        intro l x W K hK
        have HK := Lib.hid hK
        clear hK
        unfold ps.encF
        gi_wp2
        exact HK.out
      case hbody =>
        rintro l pre ⟨i, hi⟩ W ⟨⟨hv3, hbn, hlm⟩, hB⟩ hlt
        obtain ⟨y, hy⟩ : ∃ y, xs[i]? = some y := ⟨_, List.getElem?_eq_getElem (by have := HL.out; omega)⟩
        have hg : xs[i]?.getD ByteArray.empty = y := by rw [hy]; rfl
        obtain ⟨g, off, rfl, hcell⟩ := (HAT.out.below hB) i (ps.I y) (by simp [hy])
        unfold ps.I at hcell
        have hl := Go.Boxed.cell hv3.1
        have hm := Go.Boxed.cell hv3.2.1
        have hn := Go.Boxed.cell hbn
        have hnf := Go.Boxed.frozen hbn
        have HLX := Lib.hid (show ((pre ++ [(⟨i, hi⟩ : Fin k)]).length : Int) = (pre.length : Int) + 1 by simp)
        have hs' := hB.size
        have hbn2 := Go.Boxed.set (.int .i64 ((pre.length : Int) + 1)) hbn
        have hB2 := hB.setCell (p := ⟨wr.heap.size, 0, none⟩) (by simp; omega) (.int .i64 ((pre.length : Int) + 1))
        have hm2 : (W.setCell ⟨wr.heap.size, 0, none⟩ (.int .i64 ((pre.length : Int) + 1))).cell? ⟨w.heap.size + 1, 0, none⟩ = some (.int .i64 many) := by
          rw [World.cell?_of_block (w := W) (Below.heap_setCell _ _ _ _ (by show w.heap.size + 1 ≠ wr.heap.size; omega))]; exact hm
        have hv32 : V3 (W.setCell ⟨wr.heap.size, 0, none⟩ (.int .i64 ((pre.length : Int) + 1))) w.heap.size 47 3 4 (.slice (some ⟨g, off, none⟩) k cap) (.int .i64 many) (.bool false) :=
          ⟨(Below.heap_setCell _ _ _ _ (show _ ≠ wr.heap.size by omega)).trans hv3.1, (Below.heap_setCell _ _ _ _ (show _ ≠ wr.heap.size by omega)).trans hv3.2.1, (Below.heap_setCell _ _ _ _ (show _ ≠ wr.heap.size by omega)).trans hv3.2.2⟩
        have hsame : Same v W (W.setCell ⟨wr.heap.size, 0, none⟩ (.int .i64 ((pre.length : Int) + 1))) := fun j hj => Below.heap_setCell _ _ _ _ (show _ ≠ wr.heap.size by have := hvl j hj; omega)
        clear hy
        by_cases hml : (pre.length : Int) + 1 = many
        · have hmb : ((pre.length : Int) + 1 == many) = true := by simp [hml]
          have HML := Lib.hid hml
          clear hml
          gi_wp2
          exact ⟨KeepsOthers.setCell _ _ _, ⟨rfl, hv32, by rw [HLX.out]; exact hbn2, by rw [HLX.out]; exact HML.out⟩, hB2⟩
        · have hmb : ((pre.length : Int) + 1 == many) = false := by simp [hml]
          have HML := Lib.hid hml
          clear hml
          gi_wp2
          exact ⟨KeepsOthers.setCell _ _ _, hsame, ⟨hv32, by rw [HLX.out]; exact hbn2, by rw [HLX.out]; have := HML.out; omega⟩, hB2⟩
      case hdone =>
        rintro D ys W hD rfl ⟨⟨hv3, hbn, hlm⟩, hB⟩ hK
        rw [List.length_finRange] at hbn hlm
        have hl := Go.Boxed.cell hv3.1
        have hm := Go.Boxed.cell hv3.2.1
        have hn := Go.Boxed.cell hbn
        have f1 : min many (k : Int) = (k : Int) := by omega
        gi_wp2_with (refine ⟨trivial, ?_⟩; gi_at_call 12; refine (callsIn_wide.2 (ps.works_any _)).mono ?_; rintro e w5 ⟨rfl, hb5⟩; have hr5 := hv3.2.2.below hb5 (Go.Boxed.lt hv3.2.2); have hrc5 := Go.Boxed.cell hr5; have hrf5 := Go.Boxed.frozen hr5)
        exact ends_true rfl hr5 rfl ((hb5.block D (Array.getElem?_eq_some_iff.1 hK).1).trans hK) (by omega) (by omega) (by omega) (hB.trans (hb5.mono hB.size))
      case hstop =>
        rintro D c ys W hD hpre ⟨⟨rfl, hv3, hbn, hlm⟩, hB⟩ hK
        have hyl : ys.length ≤ k := by have := hpre.length_le; rwa [List.length_finRange] at this
        obtain ⟨q, hq⟩ : ∃ q, q = ys.length := ⟨_, rfl⟩
        rw [← hq] at hbn hlm hyl
        clear hpre hq
        subst hlm
        have hl := Go.Boxed.cell hv3.1
        have hm := Go.Boxed.cell hv3.2.1
        have hn := Go.Boxed.cell hbn
        have f1 : min (q : Int) (k : Int) = (q : Int) := by omega
        gi_wp2_with (refine ⟨trivial, ?_⟩; gi_at_call 12; refine (callsIn_wide.2 (ps.works_any _)).mono ?_; rintro e w5 ⟨rfl, hb5⟩; have hr5 := hv3.2.2.below hb5 (Go.Boxed.lt hv3.2.2); have hrc5 := Go.Boxed.cell hr5; have hrf5 := Go.Boxed.frozen hr5)
        exact ends_true rfl hr5 rfl ((hb5.block D (Array.getElem?_eq_some_iff.1 hK).1).trans hK) (by omega) (by omega) (by omega) (hB.trans (hb5.mono hB.size))

set_option maxRecDepth 1000000 in
set_option maxHeartbeats 4000000 in
theorem early_true (xs : List ByteArray) (many : Int) (ad : Option Addr) (len cap : Nat) (w : World) (hlen : len = xs.length) (hat : At w ad (xs.map ps.I)) :
    Calls Try.prog 5 #[.slice ad len cap, .int .i64 many] w fun e w' => e = .returned (.bool true) ∧ Below w.heap.size w w' := by
  by_cases h : len ≤ 300 ∧ 1 ≤ many
  · exact early_some xs many ad len cap w hlen hat h.1 h.2
  · refine (callsIn_wide (n := 5)).1 ?_
    clear hat hlen
    by_cases h3 : len ≤ 300
    · have h4 : many < 1 := by omega
      clear h
      refine callsIn_of_wp_marks Try.func5 rfl trivial ?_ rfl
      simp only [Try.ntmps5, List.size_toArray, List.length_cons, List.length_nil, Nat.reduceAdd, Nat.reduceSub, Array.replicate_succ, Array.replicate_zero, List.push_toArray, List.append_toArray, List.nil_append, List.cons_append]
      gi_wp2_with (first
        | (refine ⟨trivial, ?_⟩; gi_at_call 12; refine (callsIn_wide.2 (ps.works_any _)).mono ?_; rintro e w1 ⟨rfl, hb1⟩; obtain ⟨⟨bl, bm, br⟩, hs1, hw1⟩ := three_boxes hb1; have hl := Go.Boxed.cell bl; have hm := Go.Boxed.cell bm; clear hb1)
        | (refine ⟨trivial, ?_⟩; gi_at_call 12; refine (callsIn_wide.2 (ps.works_any _)).mono ?_; rintro e w2 ⟨rfl, hb2⟩; have hr5 := br.below hb2 (by omega); have hrc5 := Go.Boxed.cell hr5; have hrf5 := Go.Boxed.frozen hr5))
      exact ends_true0 rfl hr5 rfl (by omega) (hw1.trans (hb2.mono (by omega)))
    · clear h
      refine callsIn_of_wp_marks Try.func5 rfl trivial ?_ rfl
      simp only [Try.ntmps5, List.size_toArray, List.length_cons, List.length_nil, Nat.reduceAdd, Nat.reduceSub, Array.replicate_succ, Array.replicate_zero, List.push_toArray, List.append_toArray, List.nil_append, List.cons_append]
      gi_wp2_with (first
        | (refine ⟨trivial, ?_⟩; gi_at_call 12; refine (callsIn_wide.2 (ps.works_any (((w.alloc _).alloc _).alloc _))).mono ?_; rintro e w1 ⟨rfl, hb1⟩; obtain ⟨⟨bl, bm, br⟩, hs1, hw1⟩ := three_boxes hb1; have hl := Go.Boxed.cell bl; have hm := Go.Boxed.cell bm; clear hb1)
        | (refine ⟨trivial, ?_⟩; gi_at_call 12; refine (callsIn_wide.2 (ps.works_any _)).mono ?_; rintro e w2 ⟨rfl, hb2⟩; have hr5 := br.below hb2 (by omega); have hrc5 := Go.Boxed.cell hr5; have hrf5 := Go.Boxed.frozen hr5))
      exact ends_true0 rfl hr5 rfl (by omega) (hw1.trans (hb2.mono (by omega)))
end Go.Proofs.Ytkamafkajfajpaa.pp
