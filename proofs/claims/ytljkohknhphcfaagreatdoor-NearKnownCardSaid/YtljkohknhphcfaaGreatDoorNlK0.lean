/-
  The law NearKnown returns true: the walk. Conditions: the tables of bounds and of kinds lie in their variables as the program's text has them.
-/
import Derived.Test.YtljkohknhphcfaaGreatDoorNlK2
namespace Go.Proofs.YtljkohknhphcfaaGreatDoor.nl
open Go Go.ChangeShapes Go.WideShapes Go.ChangeAt Go.RowKit Go.Shelf
open Go.Proofs.YtljkohknhphcfaaGreatDoor.nr
open Go.Proofs.YtljkohknhphcfaaGreatDoor.tt (Cfg Nt na nt zn bare zd fits row tyne lt_of U Tab TabK grown_refl grown_trans grown_alloc grown_setCells grown_drew grown_drewN yes Sl Next flat)
open Go.Proofs.YtljkohknhphcfaaGreatDoor.kk (Ln St zl la ln cfind cdrop cuse cgoes cwrite cturn cput setAt setOf live fF Shp Cac Kept)
open Go.Proofs.YtljkohknhphcfaaGreatDoor.bk (Bk rem kills puts putE fd fl Nd Rg dead fresh BkAt)
open Go.Proofs.YtljkohknhphcfaaGreatDoor.mrk (Ms rdS wrS meets addE Dom MkAt)
open Go.Proofs.YtljkohknhphcfaaGreatDoor.de (Dl sT gE rF aD LAt)
open Go.Proofs.YtljkohknhphcfaaGreatDoor.oo (ref)
set_option linter.unusedVariables false
set_option maxRecDepth 1000000
set_option maxHeartbeats 4000000

set_option maxHeartbeats 64000000
theorem fold_two_size (m1 : Nt) : Array.size (Array.foldl (fun (cs : Array Value) (x : Value × Nat) => cs.setIfInBounds x.snd x.fst) #[.int .u8 0, .int .i64 0, .int .i64 0, .int .i64 0, .int .u64 0, .int .u8 0, .bool false, .bool false, .int .u32 0, .int .u32 0, .int .u32 0, .int .u32 0, .int .u32 0, .int .u32 0, .int .u32 0, .int .u32 0, .int .u32 0, .int .u32 0, .int .u32 0, .int .u32 0, .int .u32 0, .int .u32 0, .int .u32 0, .int .u32 0, .int .u8 0, .int .i64 0, .int .i64 0, .int .i64 0, .int .u64 0, .int .u8 0, .bool false, .bool false, .int .u32 0, .int .u32 0, .int .u32 0, .int .u32 0, .int .u32 0, .int .u32 0, .int .u32 0, .int .u32 0, .int .u32 0, .int .u32 0, .int .u32 0, .int .u32 0, .int .u32 0, .int .u32 0, .int .u32 0, .int .u32 0] (na m1).zipIdx 0 24) = 48 := by
  obtain ⟨k, f, t, b, st, s, h, q, d, hd⟩ := m1
  match d, hd with
  | [d0, d1, d2, d3, d4, d5, d6, d7, d8, d9, d10, d11, d12, d13, d14, d15], _ => simp [na, nt]
theorem fold_two (m1 m2 : Nt) : Array.foldl (fun (cs : Array Value) (x : Value × Nat) => cs.setIfInBounds (24 + x.snd) x.fst) (Array.foldl (fun (cs : Array Value) (x : Value × Nat) => cs.setIfInBounds x.snd x.fst) #[.int .u8 0, .int .i64 0, .int .i64 0, .int .i64 0, .int .u64 0, .int .u8 0, .bool false, .bool false, .int .u32 0, .int .u32 0, .int .u32 0, .int .u32 0, .int .u32 0, .int .u32 0, .int .u32 0, .int .u32 0, .int .u32 0, .int .u32 0, .int .u32 0, .int .u32 0, .int .u32 0, .int .u32 0, .int .u32 0, .int .u32 0, .int .u8 0, .int .i64 0, .int .i64 0, .int .i64 0, .int .u64 0, .int .u8 0, .bool false, .bool false, .int .u32 0, .int .u32 0, .int .u32 0, .int .u32 0, .int .u32 0, .int .u32 0, .int .u32 0, .int .u32 0, .int .u32 0, .int .u32 0, .int .u32 0, .int .u32 0, .int .u32 0, .int .u32 0, .int .u32 0, .int .u32 0] (na m1).zipIdx 0 24) (na m2).zipIdx 0 24 = (nt m1 ++ nt m2).toArray := by
  obtain ⟨k, f, t, b, st, s, h, q, d, hd⟩ := m1
  obtain ⟨k', f', t', b', st', s', h', q', d', hd'⟩ := m2
  match d, hd, d', hd' with
  | [d0, d1, d2, d3, d4, d5, d6, d7, d8, d9, d10, d11, d12, d13, d14, d15], _, [e0, e1, e2, e3, e4, e5, e6, e7, e8, e9, e10, e11, e12, e13, e14, e15], _ => simp [na, nt]

theorem own_wr {w W W' : World} {L : LL} {P : Pm} {k : Nr} (o : Own w W L P k) (hT : Tb w) {g : Nat} (hb : ty W g 37) (hw : w.heap.size ≤ g) (hg : W.grownBy W' (some g)) : Own w W' L P k := by
  obtain ⟨v, b, hl, hs, hi⟩ := o.ex
  have h1 := hT.lb
  have h2 := hT.lk
  have hold : w.grownBy W' none := tt.grown_new o.old hw hg
  exact ⟨⟨v, b, hl.same (fun j hj => hg.block j (hl.lt hj) (fun e => hl.noN hb (Option.some.inj e ▸ hj))) (hT.grown hold), hs, hi⟩, hold⟩
/-- Two variables, filled. -/
theorem two_vars {w W : World} {L : LL} {k : Nr} (o : Own w W L P2 k) (hT : Tb w) (a b a' b' : Nt) (sv : List Int) (hsv : sv.length = 16) (ha : ({ { a with h := true } with d := sv, hd := hsv } : Nt) = a') (hb : ({ { b with h := true } with d := sv, hd := hsv } : Nt) = b') :
    ((W.alloc (.cells (na zn) 37)).alloc (.cells (na zn) 37)).heap[W.heap.size]? = some (.cells (na zn) 37 (0, 0)) ∧
    (((W.alloc (.cells (na zn) 37)).alloc (.cells (na zn) 37)).setRow W.heap.size (na a)).heap[W.heap.size + 1]? = some (.cells (na zn) 37 (0, 0)) ∧
    ∀ W5, (((W.alloc (.cells (na zn) 37)).alloc (.cells (na zn) 37)).setRow W.heap.size (na a)).setRow (W.heap.size + 1) (na b) = W5 →
      (W5.cell? ⟨W.heap.size, 6, none⟩ = some (.bool a.h) ∧ W5.frozen? ⟨W.heap.size, 6, none⟩ = false) ∧
      (W5.setCell ⟨W.heap.size, 6, none⟩ (.bool true)).there W.heap.size 8 16 ∧
      (((W5.setCell ⟨W.heap.size, 6, none⟩ (.bool true)).setCells W.heap.size 8 (sv.map U)).cell? ⟨W.heap.size + 1, 6, none⟩ = some (.bool b.h) ∧ ((W5.setCell ⟨W.heap.size, 6, none⟩ (.bool true)).setCells W.heap.size 8 (sv.map U)).frozen? ⟨W.heap.size + 1, 6, none⟩ = false) ∧
      (((W5.setCell ⟨W.heap.size, 6, none⟩ (.bool true)).setCells W.heap.size 8 (sv.map U)).setCell ⟨W.heap.size + 1, 6, none⟩ (.bool true)).there (W.heap.size + 1) 8 16 ∧
      Sn w ((((W5.setCell ⟨W.heap.size, 6, none⟩ (.bool true)).setCells W.heap.size 8 (sv.map U)).setCell ⟨W.heap.size + 1, 6, none⟩ (.bool true)).setCells (W.heap.size + 1) 8 (sv.map U)) L k [(W.heap.size + 1, b'), (W.heap.size, a')] := by
  have hws := o.old.size
  have g0 : W.grownBy ((W.alloc (.cells (na zn) 37)).alloc (.cells (na zn) 37)) none := grown_alloc (grown_alloc (grown_refl _ _) _) _
  have hz1 : ((W.alloc (.cells (na zn) 37)).alloc (.cells (na zn) 37)).heap[W.heap.size]? = some (on zn) := ((grown_alloc (grown_refl (W.alloc (.cells (na zn) 37)) none) _).block _ (by simp) (by simp)).trans (heap_alloc_new _ _)
  have hz2 : ((W.alloc (.cells (na zn) 37)).alloc (.cells (na zn) 37)).heap[W.heap.size + 1]? = some (on zn) := by
    have := heap_alloc_new (W.alloc (.cells (na zn) 37)) (.cells (na zn) 37)
    simpa using this
  refine ⟨hz1, (setRow_other _ _ _ _ (by omega)).trans hz2, fun W5 h5 => ?_⟩
  obtain ⟨Wa, hWa⟩ : ∃ x, (W.alloc (.cells (na zn) 37)).alloc (.cells (na zn) 37) = x := ⟨_, rfl⟩
  rw [hWa] at g0 hz1 hz2 h5
  obtain ⟨G, hG⟩ : ∃ x, W.heap.size = x := ⟨_, rfl⟩
  rw [hG] at hz1 hz2 h5 hws ⊢
  have o0 := o.grown g0
  have ga : Wa.grownBy (Wa.setRow G (na a)) (some G) := grown_row (grown_refl _ _) _ _
  have a1 : (Wa.setRow G (na a)).heap[G]? = some (on a) := setRow_heap _ _ _ _ _ _ hz1
  have b1 : (Wa.setRow G (na a)).heap[G + 1]? = some (on zn) := (setRow_other _ _ _ _ (by omega)).trans hz2
  have o1 := own_wr o0 hT ⟨_, _, hz1⟩ hws ga
  have gb : (Wa.setRow G (na a)).grownBy ((Wa.setRow G (na a)).setRow (G + 1) (na b)) (some (G + 1)) := grown_row (grown_refl _ _) _ _
  have a2 : ((Wa.setRow G (na a)).setRow (G + 1) (na b)).heap[G]? = some (on a) := (setRow_other _ _ _ _ (by omega)).trans a1
  have b2 : ((Wa.setRow G (na a)).setRow (G + 1) (na b)).heap[G + 1]? = some (on b) := setRow_heap _ _ _ _ _ _ b1
  have o2 := own_wr o1 hT ⟨_, _, b1⟩ (by omega) gb
  rw [h5] at a2 b2 o2
  have gc := kk.grown_setCell W5 G 6 (.bool true)
  have a3 := set_h a2 true
  have b3 := (gc.block _ (lt_of b2) (by simp)).trans b2
  have o3 := own_wr o2 hT ⟨_, _, a2⟩ hws gc
  have gd := grown_setCells (W5.setCell ⟨G, 6, none⟩ (.bool true)) G 8 (sv.map U)
  have a4 := set_d a3 sv hsv
  have b4 := (gd.block _ (lt_of b3) (by simp)).trans b3
  have o4 := own_wr o3 hT ⟨_, _, a3⟩ hws gd
  have ge := kk.grown_setCell ((W5.setCell ⟨G, 6, none⟩ (.bool true)).setCells G 8 (sv.map U)) (G + 1) 6 (.bool true)
  have a5 := (ge.block _ (lt_of a4) (by simp)).trans a4
  have b5 := set_h b4 true
  have o5 := own_wr o4 hT ⟨_, _, b4⟩ (by omega) ge
  have gf := grown_setCells (((W5.setCell ⟨G, 6, none⟩ (.bool true)).setCells G 8 (sv.map U)).setCell ⟨G + 1, 6, none⟩ (.bool true)) (G + 1) 8 (sv.map U)
  have a6 := (gf.block _ (lt_of a5) (by simp)).trans a5
  have b6 := set_d b5 sv hsv
  have o6 := own_wr o5 hT ⟨_, _, b5⟩ (by omega) gf
  refine ⟨⟨(cell_of_row _ _ _ _ _ _ a2).trans rfl, frozen_of_row _ _ _ _ _ a2⟩, there_from a3 (by rw [tt.na_size]; decide), ⟨(cell_of_row _ _ _ _ _ _ b4).trans rfl, frozen_of_row _ _ _ _ _ b4⟩, there_from b5 (by rw [tt.na_size]; decide), o6, fun p hp => ?_⟩
  rcases List.mem_cons.1 hp with rfl | hp
  · rw [← hb]; exact b6
  · rcases List.mem_cons.1 hp with rfl | hp
    · rw [← ha]; exact a6
    · simp at hp
theorem known_any (w : World) (hT : Tb w) : Calls Tryz.prog 3 #[] w fun e w' => e = .returned (.bool true) ∧ w.grownBy w' none := by
  have HT := Lib.hid hT
  have HTW := Lib.hid (two_any w)
  have HWK : Hid (∀ w1, w.grownBy w1 none → _) := Lib.hid fun w1 hg => works_any w1 (hT.grown hg)
  have HNW : Hid (∀ w1, w.grownBy w1 none → Calls Tryz.prog 8 #[.agg c2.cells, .int .i64 0] w1 fun e w' => ∃ L : LL, e = .returned (.tuple #[.pointer (some ⟨L.q, 0, none⟩), .int .i64 0]) ∧ Own w w' L P2 k0) := Lib.hid fun w1 hg => (own_new P2 P2_ok w1 (hT.grown hg)).mono fun e w' ⟨L, he, ho⟩ => ⟨L, he, ho.from hg⟩
  obtain ⟨nA, hnA⟩ : ∃ n, upN 2 3 = n := ⟨_, rfl⟩
  obtain ⟨nB, hnB⟩ : ∃ n, upN 11 3 = n := ⟨_, rfl⟩
  obtain ⟨nG, hnG⟩ : ∃ n, givenN 3 3 = n := ⟨_, rfl⟩
  obtain ⟨u3, hu3⟩ : ∃ n, upN 3 3 = n := ⟨_, rfl⟩
  obtain ⟨u9, hu9⟩ : ∃ n, upN 9 3 = n := ⟨_, rfl⟩
  obtain ⟨nP, hnP⟩ : ∃ n, putN3 = n := ⟨_, rfl⟩
  obtain ⟨nK, hnK⟩ : ∃ n, ackN3 = n := ⟨_, rfl⟩
  obtain ⟨nC, hnC⟩ : ∃ n, upN 1 5 = n := ⟨_, rfl⟩
  obtain ⟨nD, hnD⟩ : ∃ n, upN 11 5 = n := ⟨_, rfl⟩
  obtain ⟨nH, hnH⟩ : ∃ n, givenN 5 1 = n := ⟨_, rfl⟩
  obtain ⟨nI, hnI⟩ : ∃ n, dnN 5 3 = n := ⟨_, rfl⟩
  obtain ⟨nJ, hnJ⟩ : ∃ n, dnN 8 3 = n := ⟨_, rfl⟩
  obtain ⟨nE, hnE⟩ : ∃ n, upN 1 3 = n := ⟨_, rfl⟩
  have HUA : Hid (∀ W : World, Calls Tryz.prog 12 #[.int .u8 2, .int .i64 3] W fun e w' => e = .returned (.agg (na nA)) ∧ W.grownBy w' none) := Lib.hid fun W => hnA ▸ up_any 2 3 W
  have HUB : Hid (∀ W : World, Calls Tryz.prog 12 #[.int .u8 11, .int .i64 3] W fun e w' => e = .returned (.agg (na nB)) ∧ W.grownBy w' none) := Lib.hid fun W => hnB ▸ up_any 11 3 W
  have HU3 : Hid (∀ W : World, Calls Tryz.prog 12 #[.int .u8 3, .int .i64 3] W fun e w' => e = .returned (.agg (na u3)) ∧ W.grownBy w' none) := Lib.hid fun W => hu3 ▸ up_any 3 3 W
  have HU9 : Hid (∀ W : World, Calls Tryz.prog 12 #[.int .u8 9, .int .i64 3] W fun e w' => e = .returned (.agg (na u9)) ∧ W.grownBy w' none) := Lib.hid fun W => hu9 ▸ up_any 9 3 W
  have HUC : Hid (∀ W : World, Calls Tryz.prog 12 #[.int .u8 1, .int .i64 5] W fun e w' => e = .returned (.agg (na nC)) ∧ W.grownBy w' none) := Lib.hid fun W => hnC ▸ up_any 1 5 W
  have HUD : Hid (∀ W : World, Calls Tryz.prog 12 #[.int .u8 11, .int .i64 5] W fun e w' => e = .returned (.agg (na nD)) ∧ W.grownBy w' none) := Lib.hid fun W => hnD ▸ up_any 11 5 W
  have HUE : Hid (∀ W : World, Calls Tryz.prog 12 #[.int .u8 1, .int .i64 3] W fun e w' => e = .returned (.agg (na nE)) ∧ W.grownBy w' none) := Lib.hid fun W => hnE ▸ up_any 1 3 W
  have HDI : Hid (∀ W : World, Calls Tryz.prog 17 #[.int .u8 5, .int .i64 3] W fun e w' => e = .returned (.agg (na nI)) ∧ W.grownBy w' none) := Lib.hid fun W => hnI ▸ down_any 5 3 W
  have HDJ : Hid (∀ W : World, Calls Tryz.prog 17 #[.int .u8 8, .int .i64 3] W fun e w' => e = .returned (.agg (na nJ)) ∧ W.grownBy w' none) := Lib.hid fun W => hnJ ▸ down_any 8 3 W
  have HGG : Hid (∀ W : World, Calls Tryz.prog 14 #[.int .i64 3, .int .u8 3] W fun e w' => e = .returned (.agg (na nG)) ∧ W.grownBy w' none) := Lib.hid fun W => hnG ▸ given_any 3 3 W
  have HGH : Hid (∀ W : World, Calls Tryz.prog 14 #[.int .i64 5, .int .u8 1] W fun e w' => e = .returned (.agg (na nH)) ∧ W.grownBy w' none) := Lib.hid fun W => hnH ▸ given_any 5 1 W
  have HAA : Hid (∀ W L sl, Own w W L P2 k0 → OutN w W sl [nA] → Calls Tryz.prog 11 #[.pointer (some ⟨L.q, 0, none⟩), .int .i64 3, .bool true, sl] W fun e w' => e = .returned (.bool true) ∧ Own w w' L P2 k1 ∧ Far L W w') := Lib.hid fun W L sl o hsl => asks_any o I0 3 true [nA] sl hsl (by simp) e1 r1 (by rw [← hnA]; exact o1)
  have HAC : Hid (∀ W L sl, Own w W L P2 k3 → OutN w W sl [nP, nC] → Calls Tryz.prog 11 #[.pointer (some ⟨L.q, 0, none⟩), .int .i64 5, .bool false, sl] W fun e w' => e = .returned (.bool true) ∧ Own w w' L P2 k4 ∧ Far L W w') := Lib.hid fun W L sl o hsl => asks_any o I3 5 false [nP, nC] sl hsl (by simp) e5 r5 (by rw [← hnP, ← hnC]; exact o5)
  obtain ⟨k8, hk8⟩ : ∃ x, askS P2 k7 3 false = x := ⟨_, rfl⟩
  have HAE : Hid (∀ W L sl, Own w W L P2 k7 → OutN w W sl [nE] → Calls Tryz.prog 11 #[.pointer (some ⟨L.q, 0, none⟩), .int .i64 3, .bool false, sl] W fun e w' => e = .returned (.bool true) ∧ Own w w' L P2 k8 ∧ Far L W w') := Lib.hid fun W L sl o hsl => hk8 ▸ asks_any o I7 3 false [nE] sl hsl (by simp) e10 r10 (by rw [← hnE]; exact o10)
  have HKB : Hid (∀ W L sl, Own w W L P2 k1 → OutN w W sl [nB] → Calls Tryz.prog 13 #[.pointer (some ⟨L.q, 0, none⟩), .agg (na nG), sl] W fun e w' => e = .returned (.bool true) ∧ Own w w' L P2 k2 ∧ Far L W w') := Lib.hid fun W L sl o hsl => by
    rw [← hnG]
    exact takes_any o I1 P2_ok (givenN 3 3) [nB] sl hsl (by simp) e2 q2 (by rw [← hnB]; exact o2)
  have HKD : Hid (∀ W L sl, Own w W L P2 k4 → OutN w W sl [nD] → Calls Tryz.prog 13 #[.pointer (some ⟨L.q, 0, none⟩), .agg (na nH), sl] W fun e w' => e = .returned (.bool true) ∧ Own w w' L P2 k5 ∧ Far L W w') := Lib.hid fun W L sl o hsl => by
    rw [← hnH]
    exact takes_any o I4 P2_ok (givenN 5 1) [nD] sl hsl (by simp) e6 q6 (by rw [← hnD]; exact o6)
  have HKK : Hid (∀ W L sl, Own w W L P2 k5 → OutN w W sl [nK] → Calls Tryz.prog 13 #[.pointer (some ⟨L.q, 0, none⟩), .agg (na nI), sl] W fun e w' => e = .returned (.bool true) ∧ Own w w' L P2 k6 ∧ Far L W w') := Lib.hid fun W L sl o hsl => by
    rw [← hnI]
    exact takes_any o I5 P2_ok (dnN 5 3) [nK] sl hsl (by simp) e8 q8 (by rw [← hnK]; exact o8)
  have HKJ : Hid (∀ W L sl, Own w W L P2 k6 → OutN w W sl [] → Calls Tryz.prog 13 #[.pointer (some ⟨L.q, 0, none⟩), .agg (na nJ), sl] W fun e w' => e = .returned (.bool true) ∧ Own w w' L P2 k7 ∧ Far L W w') := Lib.hid fun W L sl o hsl => by
    rw [← hnJ]
    exact takes_any o I6 P2_ok (dnN 8 3) [] sl hsl (by simp) e9 q9 o9
  have HST : Hid (∀ W L, Own w W L P2 k2 → Calls Tryz.prog 15 #[.pointer (some ⟨L.q, 0, none⟩), .int .i64 3, .int .i64 0, .int .u32 7] W fun e w' => e = .returned (.tuple #[.int .u32 0, .int .i64 0]) ∧ Own w w' L P2 k3 ∧ Far L W w') := Lib.hid fun W L o => by
    have := own_store o 3 0 7
    rw [e3, v3] at this
    exact this
  have HAB : Hid (∀ W L, Own w W L P2 k5 → Calls Tryz.prog 16 #[.pointer (some ⟨L.q, 0, none⟩), .int .i64 3, .bool false] W fun e w' => ∃ s, e = .returned (.tuple #[.bool false, s, .int .i64 110]) ∧ OutN W w' s [] ∧ Own w w' L P2 k5 ∧ Far L W w') := Lib.hid fun W L o => by
    have := own_ask o I5 3 false
    rw [e7, r7, o7, s7] at this
    exact this
  have HON := Lib.hid fun W L k n (o : Own w W L P2 k) => own_one o n
  have hsv : seven.length = 16 := rfl
  have hP3 : ({ { upN 3 3 with h := true } with d := seven, hd := hsv } : Nt) = putN3 := rfl
  have hK3 : ({ { upN 9 3 with h := true } with d := seven, hd := hsv } : Nt) = ackN3 := rfl
  have HTV0 := fun (W : World) (L : LL) (o : Own w W L P2 k3) => two_vars o hT (upN 3 3) (upN 9 3) putN3 ackN3 seven hsv hP3 hK3
  rw [hu3, hu9, hnP, hnK] at HTV0
  have HSV : Hid (row seven = _) := Lib.hid (show row seven = #[.int .u32 7, .int .u32 0, .int .u32 0, .int .u32 0, .int .u32 0, .int .u32 0, .int .u32 0, .int .u32 0, .int .u32 0, .int .u32 0, .int .u32 0, .int .u32 0, .int .u32 0, .int .u32 0, .int .u32 0, .int .u32 0] from rfl)
  clear hP3 hK3
  obtain ⟨sv, hse⟩ : ∃ x, seven = x := ⟨_, rfl⟩
  rw [hse] at HSV HTV0 hsv
  have HTV := Lib.hid HTV0
  have HSL := Lib.hid hsv
  rw [zn_na] at HTV
  have szA := tt.na_size nA
  have fdA := fold_nt nA
  have szB := tt.na_size nB
  have fdB := fold_nt nB
  obtain ⟨zL, hzL⟩ : ∃ x, zl = x := ⟨_, rfl⟩
  obtain ⟨zN, hzN⟩ : ∃ x, zn = x := ⟨_, rfl⟩
  obtain ⟨zD, hzD⟩ : ∃ x, zd = x := ⟨_, rfl⟩
  have HNL : Hid (∀ W, Calls Tryz.prog 21 #[.pointer none, .int .i64 0] W fun e w' => e = .returned (.tuple #[.agg (la zL), .bool false]) ∧ W.grownBy w' none) := Lib.hid (hzL ▸ fun W => linem_nil W)
  have HNT : Hid (∀ W, Calls Tryz.prog 22 #[.pointer none] W fun e w' => e = .returned (.tuple #[.agg (na zN), .bool false]) ∧ W.grownBy w' none) := Lib.hid (hzN ▸ fun W => waits_nil W)
  have HNB : Hid (∀ W, Calls Tryz.prog 23 #[.pointer none, .int .i64 0] W fun e w' => e = .returned (.tuple #[.agg (row zD), .bool false, .bool false]) ∧ W.grownBy w' none) := Lib.hid (hzD ▸ fun W => back_nil W)
  have HZD : Hid (zD.length = 16) := Lib.hid (hzD ▸ rfl)
  have HZB : Hid (row zd = _) := Lib.hid bk.zrow
  have HTB : Hid (∀ W : World, (W.alloc (.cells (row zd) 35)).there W.heap.size 0 16) := Lib.hid fun W => there_at (heap_alloc_new W (.cells (row zd) 35)) (by exact Nat.le_refl _)
  rw [HZB.out] at HTB
  clear HTV0 hse hsv hT hk8 hzL hzN hzD hnA hnB hnG hu3 hu9 hnP hnK hnC hnD hnH hnI hnJ hnE
  unfold Cfg.cells at HTW HNW
  go_enter Tryz.func3, Tryz.ntmps3
  go_upto_region 6 with (first
    | (go_at_call 9; ((with_reducible refine HTW.out.mono ?_); rintro e w1 ⟨rfl, hg1⟩; have HG1 := Lib.hid hg1; clear hg1))
    | (go_at_call 8; ((with_reducible refine (HNW.out _ HG1.out).mono ?_); rintro e w2 ⟨L, rfl, ho2⟩; have H2 := Lib.hid ho2; clear ho2))
    | (go_at_call 10; ((with_reducible refine (HWK.out _ H2.out.old).mono ?_); rintro e w22 ⟨rfl, hg22⟩; have H22 := Lib.hid (H2.out.grown hg22); clear hg22))
    | (go_at_call 12; (first | ((with_reducible refine (HUA.out _).mono ?_); rintro e w3 ⟨rfl, hg3⟩; have H3 := Lib.hid (HON.out _ _ _ nA (H22.out.grown hg3)); clear hg3) | ((with_reducible refine (HUB.out _).mono ?_); rintro e w6 ⟨rfl, hg6⟩; have H6 := Lib.hid (HON.out _ _ _ nB (H5.out.grown hg6)); clear hg6) | ((with_reducible refine (HU3.out _).mono ?_); rintro e w9 ⟨rfl, hg9⟩; have H9 := Lib.hid (H8.out.grown hg9); clear hg9) | ((with_reducible refine (HU9.out _).mono ?_); rintro e w10 ⟨rfl, hg10⟩; have H10 := Lib.hid (HTV.out _ _ (H9.out.grown hg10)); clear hg10)))
    | (go_at_call 11; ((with_reducible refine (HAA.out _ _ _ H3.out.1 H3.out.2).mono ?_); rintro e w4 ⟨rfl, ho4, hf4⟩; have H4 := Lib.hid ho4; clear ho4 hf4))
    | (go_at_call 14; ((with_reducible refine (HGG.out _).mono ?_); rintro e w5 ⟨rfl, hg5⟩; have H5 := Lib.hid (H4.out.grown hg5); clear hg5))
    | (go_at_call 13; ((with_reducible refine (HKB.out _ _ _ H6.out.1 H6.out.2).mono ?_); rintro e w7 ⟨rfl, ho7, hf7⟩; have H7 := Lib.hid ho7; clear ho7 hf7))
    | (go_at_call 15; ((with_reducible refine (HST.out _ _ H7.out).mono ?_); rintro e w8 ⟨rfl, ho8, hf8⟩; have H8 := Lib.hid ho8; clear ho8 hf8))
    | ((with_reducible refine tt.store_any u3 (na zn) 3 47 w10.heap.size ?_ ?_ ?_ ?_ ?_); ((rfl)); ((rfl)); ((exact H10.out.1)); ((rfl)))
    | ((with_reducible refine tt.store_any u9 (na zn) 4 48 (w10.heap.size + 1) ?_ ?_ ?_ ?_ ?_); ((rfl)); ((rfl)); ((exact H10.out.2.1)); ((rfl))))
  obtain ⟨w11, hw11⟩ : ∃ x, (((w10.alloc (.cells (na zn) 37)).alloc (.cells (na zn) 37)).setRow w10.heap.size (na u3)).setRow (w10.heap.size + 1) (na u9) = x := ⟨_, rfl⟩
  rw [zn_na] at hw11
  have HX := H10.out.2.2 _ hw11
  rw [hw11]
  obtain ⟨B, hB⟩ : ∃ x, w10.heap.size = x := ⟨_, rfl⟩
  rw [hB] at HX ⊢
  obtain ⟨⟨s6, f6⟩, t8, ⟨s7, f7⟩, t9, hsn⟩ := HX
  have S15 := Lib.hid hsn
  clear hsn hw11 H10 hB
  go_upto_region 7 with (first
    | ((with_reducible refine store_b sv HSL.out 52 49 B 8 ?_ ?_ t8 ?_); ((rfl)); ((exact congrArg Value.agg HSV.out.symm)))
    | ((with_reducible refine store_b sv HSL.out 54 50 (B + 1) 8 ?_ ?_ t9 ?_); ((rfl)); ((exact congrArg Value.agg HSV.out.symm))))
  obtain ⟨w15, hw15⟩ : ∃ x, (((w11.setCell ⟨B, 6, none⟩ (.bool true)).setCells B 8 (sv.map U)).setCell ⟨B + 1, 6, none⟩ (.bool true)).setCells (B + 1) 8 (sv.map U) = x := ⟨_, rfl⟩
  rw [hw15] at S15 ⊢
  clear hw15 s6 f6 t8 s7 f7 t9
  have S16 := Lib.hid (S15.out.grown (grown_drew (grown_refl _ none)))
  obtain ⟨t, nn, HT, hagg, hsize, hld⟩ := namedN'
  have hldP := hld B 0 nP
  have HS16 := Lib.hid (S16.out.rangeN (.tail _ (.head _)))
  rw [HT.out]
  have szP := tt.na_size nP
  have szC := tt.na_size nC
  have fdPC := fold_two nP nC
  have fdPS := fold_two_size nP
  have szD := tt.na_size nD
  have fdD := fold_nt nD
  refine wp_region_held_drew (S := fun W => W.rangeAt B 0 (nt nP)) (by kernel_rfl) HS16.out (fun hHeld => ?_)
  refine wpAnyH_take (i := 0) (oi := ⟨some 55, Op.move (Operand.tmp 1), _, _, _, _⟩) (v := ?v1) rfl (by kernel_rfl) (by kernel_rfl) (by kernel_rfl) (fun _ _ _ h => h) (Or.inl ⟨by rfl, ?hy1⟩) (by assumption) ?rest1
  case hy1 => ((intro w0 hSw; have hl0 := hldP _ hSw; go_simp); try (with_reducible rfl))
  try simp only [Act.put, List.setIfInBounds_toArray, List.set_cons_zero, List.set_cons_succ]
  refine wpAnyH_take (i := 1) (oi := ⟨some 56, Op.load t (Operand.tmp 3), _, _, _, _⟩) (v := ?v2) rfl (by kernel_rfl) (by kernel_rfl) (by kernel_rfl) (fun _ _ _ h => h) (Or.inl ⟨by rfl, ?hy2⟩) (by assumption) ?rest2
  case hy2 => ((intro w0 hSw; have hl0 := hldP _ hSw; go_simp); try (with_reducible rfl))
  try simp only [Act.put, List.setIfInBounds_toArray, List.set_cons_zero, List.set_cons_succ]
  refine wpAnyH_ready (rs := [2]) (by kernel_rfl) (by simp) ?_
  refine AllReadyH.cons (o := ⟨some 57, Op.call { callee := Callee.value (Operand.func 12), args := #[Operand.const (Value.int IntKind.u8 1), Operand.const (Value.int IntKind.i64 5)], argTypes := _ }, _, _, _, _⟩) rfl (fun K hK => ?_) AllReadyH.nil
  go_simp
  go_at_call 12; ((with_reducible refine (HUC.out _).mono ?_); rintro e w17 ⟨rfl, hg⟩; have S17 := Lib.hid (S16.out.grown hg); clear hg)
  go_wp2_with fail
  refine hK.out _ _ (S17.out.rangeN (.tail _ (.head _))) (fun hHeld2 => ?_)
  clear hK K
  try simp only [Act.put, List.setIfInBounds_toArray, List.set_cons_zero, List.set_cons_succ]
  refine wpAnyH_ready (rs := [3]) (by kernel_rfl) (by simp) ?_
  refine AllReadyH.cons (o := ⟨some 58, Op.buildSlice 43 2 #[(0, (Operand.tmp 56)), (1, (Operand.tmp 57))], _, _, _, _⟩) rfl (fun K hK => ?_) AllReadyH.nil
  go_simp
  have S18 := Lib.hid (S17.out.two nP nC).1
  have O18 := Lib.hid (S17.out.two nP nC).2
  refine hK.out _ _ (S18.out.rangeN (.tail _ (.head _))) (fun hHeld3 => ?_)
  clear hK K
  try simp only [Act.put, List.setIfInBounds_toArray, List.set_cons_zero, List.set_cons_succ]
  refine wpAnyH_ready (rs := [4]) (by kernel_rfl) (by simp) ?_
  refine AllReadyH.cons (o := ⟨some 59, Op.call { callee := Callee.value (Operand.func 11), args := #[(Operand.tmp 55), Operand.const (Value.int IntKind.i64 5), Operand.const (Value.bool false), (Operand.tmp 58)], argTypes := _ }, _, _, _, _⟩) rfl (fun K hK => ?_) AllReadyH.nil
  go_simp
  go_at_call 11; ((with_reducible refine (HAC.out _ _ _ S18.out.own O18.out).mono ?_); rintro e w19 ⟨rfl, ho, hf⟩; have S19 := Lib.hid (S18.out.far ho hf); clear ho hf)
  go_wp2_with fail
  refine hK.out _ _ (S19.out.rangeN (.tail _ (.head _))) (fun hHeld4 => ?_)
  clear hK K
  try simp only [Act.put, List.setIfInBounds_toArray, List.set_cons_zero, List.set_cons_succ]
  refine wpAnyH_take (i := 5) (oi := ⟨some 60, Op.unOp UnOp.not 4 (Operand.tmp 59), _, _, _, _⟩) (v := ?v3) rfl (by kernel_rfl) (by kernel_rfl) (by kernel_rfl) (fun _ _ _ h => h) (Or.inl ⟨by rfl, ?hy3⟩) (by assumption) ?rest3
  case hy3 => ((intro w0 hSw; go_simp); try (with_reducible rfl))
  try simp only [Act.put, List.setIfInBounds_toArray, List.set_cons_zero, List.set_cons_succ]
  refine wpAnyH_take (i := 6) (oi := ⟨some 61, Op.move (Operand.tmp 60), _, _, _, _⟩) (v := ?v4) rfl (by kernel_rfl) (by kernel_rfl) (by kernel_rfl) (fun _ _ _ h => h) (Or.inl ⟨by rfl, ?hy4⟩) (by assumption) ?rest4
  case hy4 => ((intro w0 hSw; go_simp); try (with_reducible rfl))
  try simp only [Act.put, List.setIfInBounds_toArray, List.set_cons_zero, List.set_cons_succ]
  refine wpAnyH_take (i := 7) (oi := ⟨some 62, Op.move (Operand.tmp 1), _, _, _, _⟩) (v := ?v5) rfl (by kernel_rfl) (by kernel_rfl) (by kernel_rfl) (fun _ _ _ h => h) (Or.inl ⟨by rfl, ?hy5⟩) (by assumption) ?rest5
  case hy5 => ((intro w0 hSw; go_simp); try (with_reducible rfl))
  try simp only [Act.put, List.setIfInBounds_toArray, List.set_cons_zero, List.set_cons_succ]
  refine wpAnyH_ready (rs := [8]) (by kernel_rfl) (by simp) ?_
  refine AllReadyH.cons (o := ⟨some 63, Op.call { callee := Callee.value (Operand.func 14), args := #[Operand.const (Value.int IntKind.i64 5), Operand.const (Value.int IntKind.u8 1)], argTypes := _ }, _, _, _, _⟩) rfl (fun K hK => ?_) AllReadyH.nil
  go_simp
  go_at_call 14; ((with_reducible refine (HGH.out _).mono ?_); rintro e w20 ⟨rfl, hg⟩; have S20 := Lib.hid (S19.out.grown hg); clear hg)
  go_wp2_with fail
  refine hK.out _ _ (S20.out.rangeN (.tail _ (.head _))) (fun hHeld8 => ?_)
  clear hK K
  try simp only [Act.put, List.setIfInBounds_toArray, List.set_cons_zero, List.set_cons_succ]
  refine wpAnyH_ready (rs := [9]) (by kernel_rfl) (by simp) ?_
  refine AllReadyH.cons (o := ⟨some 64, Op.call { callee := Callee.value (Operand.func 12), args := #[Operand.const (Value.int IntKind.u8 11), Operand.const (Value.int IntKind.i64 5)], argTypes := _ }, _, _, _, _⟩) rfl (fun K hK => ?_) AllReadyH.nil
  go_simp
  go_at_call 12; ((with_reducible refine (HUD.out _).mono ?_); rintro e w21 ⟨rfl, hg⟩; have S21 := Lib.hid (S20.out.grown hg); clear hg)
  go_wp2_with fail
  refine hK.out _ _ (S21.out.rangeN (.tail _ (.head _))) (fun hHeld9 => ?_)
  clear hK K
  try simp only [Act.put, List.setIfInBounds_toArray, List.set_cons_zero, List.set_cons_succ]
  refine wpAnyH_ready (rs := [10]) (by kernel_rfl) (by simp) ?_
  refine AllReadyH.cons (o := ⟨some 65, Op.buildSlice 43 1 #[(0, (Operand.tmp 64))], _, _, _, _⟩) rfl (fun K hK => ?_) AllReadyH.nil
  go_simp
  have S22 := Lib.hid (S21.out.one nD).1
  have O22 := Lib.hid (S21.out.one nD).2
  refine hK.out _ _ (S22.out.rangeN (.tail _ (.head _))) (fun hHeld10 => ?_)
  clear hK K
  try simp only [Act.put, List.setIfInBounds_toArray, List.set_cons_zero, List.set_cons_succ]
  refine wpAnyH_ready (rs := [11]) (by kernel_rfl) (by simp) ?_
  refine AllReadyH.cons (o := ⟨some 66, Op.call { callee := Callee.value (Operand.func 13), args := #[(Operand.tmp 62), (Operand.tmp 63), (Operand.tmp 65)], argTypes := _ }, _, _, _, _⟩) rfl (fun K hK => ?_) AllReadyH.nil
  go_simp
  go_at_call 13; ((with_reducible refine (HKD.out _ _ _ S22.out.own O22.out).mono ?_); rintro e w23 ⟨rfl, ho, hf⟩; have S23 := Lib.hid (S22.out.far ho hf); clear ho hf)
  go_wp2_with fail
  refine hK.out _ _ (S23.out.rangeN (.tail _ (.head _))) (fun hHeld11 => ?_)
  clear hK K
  try simp only [Act.put, List.setIfInBounds_toArray, List.set_cons_zero, List.set_cons_succ]
  refine wpAnyH_take (i := 12) (oi := ⟨some 67, Op.unOp UnOp.not 4 (Operand.tmp 66), _, _, _, _⟩) (v := ?v6) rfl (by kernel_rfl) (by kernel_rfl) (by kernel_rfl) (fun _ _ _ h => h) (Or.inl ⟨by rfl, ?hy6⟩) (by assumption) ?rest6
  case hy6 => ((intro w0 hSw; go_simp); try (with_reducible rfl))
  try simp only [Act.put, List.setIfInBounds_toArray, List.set_cons_zero, List.set_cons_succ]
  refine wpAnyH_take (i := 13) (oi := ⟨some 68, Op.pick (Operand.tmp 61) (Operand.const (Value.bool true)) (Operand.tmp 67), _, _, _, _⟩) (v := ?v7) rfl (by kernel_rfl) (by kernel_rfl) (by kernel_rfl) (fun _ _ _ h => h) (Or.inl ⟨by rfl, ?hy7⟩) (by assumption) ?rest7
  case hy7 => ((intro w0 hSw; go_simp); try (with_reducible rfl))
  try simp only [Act.put, List.setIfInBounds_toArray, List.set_cons_zero, List.set_cons_succ]
  refine wpAnyH_done (by kernel_rfl) ?_ _
  go_upto_region 10 with (go_at_call 16; ((with_reducible refine (HAB.out _ _ S23.out.own).mono ?_); rintro e w24 ⟨s, rfl, ho, hw, hf⟩; have S24 := Lib.hid (S23.out.far hw hf); obtain ⟨ad4, cap4, rfl⟩ := ho.sl.form; clear ho hw hf))
  have S25 := Lib.hid (S24.out.grown (grown_drew (grown_refl _ none)))
  have hldK := hld (B + 1) 0 nK
  have szK := tt.na_size nK
  have fdK := fold_nt nK
  have szE := tt.na_size nE
  have fdE := fold_nt nE
  have HS25 := Lib.hid (S25.out.rangeN (.head _))
  rw [HT.out]
  refine wp_region_held_drew (S := fun W => W.rangeAt (B + 1) 0 (nt nK)) (by kernel_rfl) HS25.out (fun hHeld => ?_)
  refine wpAnyH_take (i := 0) (oi := ⟨some 75, Op.move (Operand.tmp 7), _, _, _, _⟩) (v := ?v8) rfl (by kernel_rfl) (by kernel_rfl) (by kernel_rfl) (fun _ _ _ h => h) (Or.inl ⟨by rfl, ?hy8⟩) (by assumption) ?rest8
  case hy8 => ((intro w0 hSw; go_simp); try (with_reducible rfl))
  try simp only [Act.put, List.setIfInBounds_toArray, List.set_cons_zero, List.set_cons_succ]
  refine wpAnyH_take (i := 1) (oi := ⟨some 76, Op.binOp BinOp.neq 23 (Operand.tmp 75) (Operand.const (Value.int IntKind.i64 110)) 23, _, _, _, _⟩) (v := ?v9) rfl (by kernel_rfl) (by kernel_rfl) (by kernel_rfl) (fun _ _ _ h => h) (Or.inl ⟨by rfl, ?hy9⟩) (by assumption) ?rest9
  case hy9 => ((intro w0 hSw; go_simp); try (with_reducible rfl))
  try simp only [Act.put, List.setIfInBounds_toArray, List.set_cons_zero, List.set_cons_succ]
  refine wpAnyH_take (i := 2) (oi := ⟨some 77, Op.move (Operand.tmp 76), _, _, _, _⟩) (v := ?v10) rfl (by kernel_rfl) (by kernel_rfl) (by kernel_rfl) (fun _ _ _ h => h) (Or.inl ⟨by rfl, ?hy10⟩) (by assumption) ?rest10
  case hy10 => ((intro w0 hSw; go_simp); try (with_reducible rfl))
  try simp only [Act.put, List.setIfInBounds_toArray, List.set_cons_zero, List.set_cons_succ]
  refine wpAnyH_take (i := 3) (oi := ⟨some 78, Op.move (Operand.tmp 1), _, _, _, _⟩) (v := ?v11) rfl (by kernel_rfl) (by kernel_rfl) (by kernel_rfl) (fun _ _ _ h => h) (Or.inl ⟨by rfl, ?hy11⟩) (by assumption) ?rest11
  case hy11 => ((intro w0 hSw; go_simp); try (with_reducible rfl))
  try simp only [Act.put, List.setIfInBounds_toArray, List.set_cons_zero, List.set_cons_succ]
  refine wpAnyH_take (i := 5) (oi := ⟨some 80, Op.load t (Operand.tmp 4), _, _, _, _⟩) (v := ?v12) rfl (by kernel_rfl) (by kernel_rfl) (by kernel_rfl) (fun _ _ _ h => h) (Or.inl ⟨by rfl, ?hy12⟩) (by assumption) ?rest12
  case hy12 => ((intro w0 hSw; have hl0 := hldK _ hSw; go_simp); try (with_reducible rfl))
  try simp only [Act.put, List.setIfInBounds_toArray, List.set_cons_zero, List.set_cons_succ]
  refine wpAnyH_ready (rs := [4, 6]) (by kernel_rfl) (by simp) ?_
  refine AllReadyH.cons (o := ⟨some 79, Op.call { callee := Callee.value (Operand.func 17), args := #[Operand.const (Value.int IntKind.u8 5), Operand.const (Value.int IntKind.i64 3)], argTypes := _ }, _, _, _, _⟩) rfl (fun K hK => ?_) (AllReadyH.cons (o := ⟨some 81, Op.buildSlice 43 1 #[(0, (Operand.tmp 80))], _, _, _, _⟩) rfl (fun K hK => ?_) AllReadyH.nil)
  · go_simp
    go_at_call 17; ((with_reducible refine (HDI.out _).mono ?_); rintro e w26 ⟨rfl, hg⟩; have S26 := Lib.hid (S25.out.grown hg); clear hg)
    go_wp2_with fail
    refine hK.out _ _ (S26.out.rangeN (.head _)) (fun hHeld4 => ?_)
    clear hK K
    try simp only [Act.put, List.setIfInBounds_toArray, List.set_cons_zero, List.set_cons_succ]
    refine wpAnyH_ready (rs := [6]) (by kernel_rfl) (by simp) ?_
    refine AllReadyH.cons (o := ⟨some 81, Op.buildSlice 43 1 #[(0, (Operand.tmp 80))], _, _, _, _⟩) rfl (fun K hK => ?_) AllReadyH.nil
    go_simp
    have S27 := Lib.hid (S26.out.one nK).1
    have O27 := Lib.hid (S26.out.one nK).2
    refine hK.out _ _ (S27.out.rangeN (.head _)) (fun hHeld6 => ?_)
    clear hK K
    try simp only [Act.put, List.setIfInBounds_toArray, List.set_cons_zero, List.set_cons_succ]
    refine wpAnyH_ready (rs := [7]) (by kernel_rfl) (by simp) ?_
    refine AllReadyH.cons (o := ⟨some 82, Op.call { callee := Callee.value (Operand.func 13), args := #[(Operand.tmp 78), (Operand.tmp 79), (Operand.tmp 81)], argTypes := _ }, _, _, _, _⟩) rfl (fun K hK => ?_) AllReadyH.nil
    go_simp
    go_at_call 13; ((with_reducible refine (HKK.out _ _ _ S27.out.own O27.out).mono ?_); rintro e w28 ⟨rfl, ho, hf⟩; have S28 := Lib.hid (S27.out.far ho hf); clear ho hf)
    go_wp2_with fail
    refine hK.out _ _ (S28.out.rangeN (.head _)) (fun hHeld7 => ?_)
    clear hK K
    try simp only [Act.put, List.setIfInBounds_toArray, List.set_cons_zero, List.set_cons_succ]
    refine wpAnyH_take (i := 8) (oi := ⟨some 83, Op.unOp UnOp.not 4 (Operand.tmp 82), _, _, _, _⟩) (v := ?v13) rfl (by kernel_rfl) (by kernel_rfl) (by kernel_rfl) (fun _ _ _ h => h) (Or.inl ⟨by rfl, ?hy13⟩) (by assumption) ?rest13
    case hy13 => ((intro w0 hSw; go_simp); try (with_reducible rfl))
    try simp only [Act.put, List.setIfInBounds_toArray, List.set_cons_zero, List.set_cons_succ]
    refine wpAnyH_take (i := 9) (oi := ⟨some 84, Op.pick (Operand.tmp 77) (Operand.const (Value.bool true)) (Operand.tmp 83), _, _, _, _⟩) (v := ?v14) rfl (by kernel_rfl) (by kernel_rfl) (by kernel_rfl) (fun _ _ _ h => h) (Or.inl ⟨by rfl, ?hy14⟩) (by assumption) ?rest14
    case hy14 => ((intro w0 hSw; go_simp); try (with_reducible rfl))
    try simp only [Act.put, List.setIfInBounds_toArray, List.set_cons_zero, List.set_cons_succ]
    refine wpAnyH_take (i := 10) (oi := ⟨some 85, Op.move (Operand.tmp 84), _, _, _, _⟩) (v := ?v15) rfl (by kernel_rfl) (by kernel_rfl) (by kernel_rfl) (fun _ _ _ h => h) (Or.inl ⟨by rfl, ?hy15⟩) (by assumption) ?rest15
    case hy15 => ((intro w0 hSw; go_simp); try (with_reducible rfl))
    try simp only [Act.put, List.setIfInBounds_toArray, List.set_cons_zero, List.set_cons_succ]
    refine wpAnyH_take (i := 11) (oi := ⟨some 86, Op.move (Operand.tmp 1), _, _, _, _⟩) (v := ?v16) rfl (by kernel_rfl) (by kernel_rfl) (by kernel_rfl) (fun _ _ _ h => h) (Or.inl ⟨by rfl, ?hy16⟩) (by assumption) ?rest16
    case hy16 => ((intro w0 hSw; go_simp); try (with_reducible rfl))
    try simp only [Act.put, List.setIfInBounds_toArray, List.set_cons_zero, List.set_cons_succ]
    refine wpAnyH_ready (rs := [12]) (by kernel_rfl) (by simp) ?_
    refine AllReadyH.cons (o := ⟨some 87, Op.call { callee := Callee.value (Operand.func 17), args := #[Operand.const (Value.int IntKind.u8 8), Operand.const (Value.int IntKind.i64 3)], argTypes := _ }, _, _, _, _⟩) rfl (fun K hK => ?_) AllReadyH.nil
    go_simp
    go_at_call 17; ((with_reducible refine (HDJ.out _).mono ?_); rintro e w29 ⟨rfl, hg⟩; have S29 := Lib.hid (S28.out.grown hg); have O29 := Lib.hid (OutN.nil w w29); clear hg)
    go_wp2_with fail
    refine hK.out _ _ (S29.out.rangeN (.head _)) (fun hHeld12 => ?_)
    clear hK K
    try simp only [Act.put, List.setIfInBounds_toArray, List.set_cons_zero, List.set_cons_succ]
    refine wpAnyH_ready (rs := [13]) (by kernel_rfl) (by simp) ?_
    refine AllReadyH.cons (o := ⟨some 88, Op.call { callee := Callee.value (Operand.func 13), args := #[(Operand.tmp 86), (Operand.tmp 87), Operand.const (Value.slice none 0 0)], argTypes := _ }, _, _, _, _⟩) rfl (fun K hK => ?_) AllReadyH.nil
    go_simp
    go_at_call 13; ((with_reducible refine (HKJ.out _ _ _ S29.out.own O29.out).mono ?_); rintro e w30 ⟨rfl, ho, hf⟩; have S30 := Lib.hid (S29.out.far ho hf); clear ho hf)
    go_wp2_with fail
    refine hK.out _ _ (S30.out.rangeN (.head _)) (fun hHeld13 => ?_)
    clear hK K
    try simp only [Act.put, List.setIfInBounds_toArray, List.set_cons_zero, List.set_cons_succ]
    refine wpAnyH_take (i := 14) (oi := ⟨some 89, Op.unOp UnOp.not 4 (Operand.tmp 88), _, _, _, _⟩) (v := ?v17) rfl (by kernel_rfl) (by kernel_rfl) (by kernel_rfl) (fun _ _ _ h => h) (Or.inl ⟨by rfl, ?hy17⟩) (by assumption) ?rest17
    case hy17 => ((intro w0 hSw; go_simp); try (with_reducible rfl))
    try simp only [Act.put, List.setIfInBounds_toArray, List.set_cons_zero, List.set_cons_succ]
    refine wpAnyH_take (i := 15) (oi := ⟨some 90, Op.pick (Operand.tmp 85) (Operand.const (Value.bool true)) (Operand.tmp 89), _, _, _, _⟩) (v := ?v18) rfl (by kernel_rfl) (by kernel_rfl) (by kernel_rfl) (fun _ _ _ h => h) (Or.inl ⟨by rfl, ?hy18⟩) (by assumption) ?rest18
    case hy18 => ((intro w0 hSw; go_simp); try (with_reducible rfl))
    try simp only [Act.put, List.setIfInBounds_toArray, List.set_cons_zero, List.set_cons_succ]
    refine wpAnyH_take (i := 16) (oi := ⟨some 91, Op.move (Operand.tmp 90), _, _, _, _⟩) (v := ?v19) rfl (by kernel_rfl) (by kernel_rfl) (by kernel_rfl) (fun _ _ _ h => h) (Or.inl ⟨by rfl, ?hy19⟩) (by assumption) ?rest19
    case hy19 => ((intro w0 hSw; go_simp); try (with_reducible rfl))
    try simp only [Act.put, List.setIfInBounds_toArray, List.set_cons_zero, List.set_cons_succ]
    refine wpAnyH_take (i := 17) (oi := ⟨some 92, Op.move (Operand.tmp 1), _, _, _, _⟩) (v := ?v20) rfl (by kernel_rfl) (by kernel_rfl) (by kernel_rfl) (fun _ _ _ h => h) (Or.inl ⟨by rfl, ?hy20⟩) (by assumption) ?rest20
    case hy20 => ((intro w0 hSw; go_simp); try (with_reducible rfl))
    try simp only [Act.put, List.setIfInBounds_toArray, List.set_cons_zero, List.set_cons_succ]
    refine wpAnyH_ready (rs := [18]) (by kernel_rfl) (by simp) ?_
    refine AllReadyH.cons (o := ⟨some 93, Op.call { callee := Callee.value (Operand.func 12), args := #[Operand.const (Value.int IntKind.u8 1), Operand.const (Value.int IntKind.i64 3)], argTypes := _ }, _, _, _, _⟩) rfl (fun K hK => ?_) AllReadyH.nil
    go_simp
    go_at_call 12; ((with_reducible refine (HUE.out _).mono ?_); rintro e w31 ⟨rfl, hg⟩; have S31 := Lib.hid (S30.out.grown hg); clear hg)
    go_wp2_with fail
    refine hK.out _ _ (S31.out.rangeN (.head _)) (fun hHeld18 => ?_)
    clear hK K
    try simp only [Act.put, List.setIfInBounds_toArray, List.set_cons_zero, List.set_cons_succ]
    refine wpAnyH_ready (rs := [19]) (by kernel_rfl) (by simp) ?_
    refine AllReadyH.cons (o := ⟨some 94, Op.buildSlice 43 1 #[(0, (Operand.tmp 93))], _, _, _, _⟩) rfl (fun K hK => ?_) AllReadyH.nil
    go_simp
    have S32 := Lib.hid (S31.out.one nE).1
    have O32 := Lib.hid (S31.out.one nE).2
    refine hK.out _ _ (S32.out.rangeN (.head _)) (fun hHeld19 => ?_)
    clear hK K
    try simp only [Act.put, List.setIfInBounds_toArray, List.set_cons_zero, List.set_cons_succ]
    refine wpAnyH_ready (rs := [20]) (by kernel_rfl) (by simp) ?_
    refine AllReadyH.cons (o := ⟨some 95, Op.call { callee := Callee.value (Operand.func 11), args := #[(Operand.tmp 92), Operand.const (Value.int IntKind.i64 3), Operand.const (Value.bool false), (Operand.tmp 94)], argTypes := _ }, _, _, _, _⟩) rfl (fun K hK => ?_) AllReadyH.nil
    go_simp
    go_at_call 11; ((with_reducible refine (HAE.out _ _ _ S32.out.own O32.out).mono ?_); rintro e w33 ⟨rfl, ho, hf⟩; have S33 := Lib.hid (S32.out.far ho hf); clear ho hf)
    go_wp2_with fail
    refine hK.out _ _ (S33.out.rangeN (.head _)) (fun hHeld20 => ?_)
    clear hK K
    try simp only [Act.put, List.setIfInBounds_toArray, List.set_cons_zero, List.set_cons_succ]
    refine wpAnyH_take (i := 21) (oi := ⟨some 96, Op.unOp UnOp.not 4 (Operand.tmp 95), _, _, _, _⟩) (v := ?v21) rfl (by kernel_rfl) (by kernel_rfl) (by kernel_rfl) (fun _ _ _ h => h) (Or.inl ⟨by rfl, ?hy21⟩) (by assumption) ?rest21
    case hy21 => ((intro w0 hSw; go_simp); try (with_reducible rfl))
    try simp only [Act.put, List.setIfInBounds_toArray, List.set_cons_zero, List.set_cons_succ]
    refine wpAnyH_take (i := 22) (oi := ⟨some 97, Op.pick (Operand.tmp 91) (Operand.const (Value.bool true)) (Operand.tmp 96), _, _, _, _⟩) (v := ?v22) rfl (by kernel_rfl) (by kernel_rfl) (by kernel_rfl) (fun _ _ _ h => h) (Or.inl ⟨by rfl, ?hy22⟩) (by assumption) ?rest22
    case hy22 => ((intro w0 hSw; go_simp); try (with_reducible rfl))
    try simp only [Act.put, List.setIfInBounds_toArray, List.set_cons_zero, List.set_cons_succ]
    refine wpAnyH_done (by kernel_rfl) ?_ _
    go_upto_region 17 with (first | (go_at_call 18; ((with_reducible refine (clear_nil _).mono ?_); rintro e w34 ⟨rfl, rfl⟩)) | (go_at_call 16; ((with_reducible refine (ask_nil _).mono ?_); rintro e w35 ⟨rfl, rfl⟩)) | (go_at_call 19; ((with_reducible refine (load_nil _).mono ?_); rintro e w36 ⟨rfl, hg⟩; have S36 := Lib.hid (S33.out.grown hg); clear hg)) | (go_at_call 15; ((with_reducible refine (store_nil _).mono ?_); rintro e w37 ⟨rfl, hg⟩; have S37 := Lib.hid (S36.out.grown hg); clear hg)))
    have hA := hld B 0 nP _ (S37.out.rangeN (.tail _ (.head _)))
    rw [HT.out]
    go_upto_region 21 with (first | (go_at_call 20; ((with_reducible refine (take_nil nP _).mono ?_); rintro e w38 ⟨rfl, hg⟩; have S38 := Lib.hid (S37.out.grown hg); clear hg)) | (go_at_call 21; ((with_reducible refine (HNL.out _).mono ?_); rintro e w39 ⟨rfl, hg⟩; have S39 := Lib.hid (S38.out.grown hg); clear hg)) | ((with_reducible refine kk.store_new' zL 16 126 ?_ ?_ ?_); ((rfl)); ((rfl))) | (go_at_call 22; ((with_reducible refine (HNT.out _).mono ?_); rintro e w40 ⟨rfl, hg⟩; have S40 := Lib.hid ((S39.out.grown (grown_alloc (grown_refl _ _) _)).grown hg); clear hg)) | ((with_reducible refine tt.store_new zN _ 18 131 ?_ ?_ ?_ ?_); ((rfl)); ((rfl)); ((rfl))) | (go_at_call 23; ((with_reducible refine (HNB.out _).mono ?_); rintro e w41 ⟨rfl, hg⟩; have S41 := Lib.hid ((S40.out.grown (grown_alloc (grown_refl _ _) _)).grown hg); clear hg)) | ((with_reducible refine store_b zD HZD.out 20 136 w41.heap.size 0 ?_ ?_ (HTB.out _) ?_); ((rfl)); ((rfl))))
    have HG := Lib.hid (tt.grown_new (grown_alloc S41.out.own.old (.cells (row zd) 35)) S41.out.own.old.size (grown_setCells _ w41.heap.size 0 (zD.map U)))
    rw [HZB.out] at HG
    obtain ⟨w42, hw42⟩ : ∃ x, (w41.alloc (.cells #[.int .u32 0, .int .u32 0, .int .u32 0, .int .u32 0, .int .u32 0, .int .u32 0, .int .u32 0, .int .u32 0, .int .u32 0, .int .u32 0, .int .u32 0, .int .u32 0, .int .u32 0, .int .u32 0, .int .u32 0, .int .u32 0] 35)).setCells w41.heap.size 0 (zD.map U) = x := ⟨_, rfl⟩
    rw [hw42] at HG ⊢
    go_wp2_with (first | (go_at_call 24; ((with_reducible refine (deal_nil _).mono ?_); rintro e w43 ⟨rfl, rfl⟩)) | (go_at_call 25; ((with_reducible refine (copy_nil _).mono ?_); rintro e w44 ⟨rfl, rfl⟩)))
    go_ret
    exact ⟨rfl, by first | exact HG.out | exact grown_drewN HG.out _ | exact grown_drew (grown_drewN HG.out _) | exact grown_drewN (grown_drew HG.out) _⟩
  · go_simp
    have S26 := Lib.hid (S25.out.one nK).1
    have O26 : Hid (OutN w _ (.slice (some ⟨w24.heap.size, 0, none⟩) 1 1) [nK]) := Lib.hid (S25.out.one nK).2
    refine hK.out _ _ (S26.out.rangeN (.head _)) (fun hHeld6 => ?_)
    clear hK K
    try simp only [Act.put, List.setIfInBounds_toArray, List.set_cons_zero, List.set_cons_succ]
    refine wpAnyH_ready (rs := [4]) (by kernel_rfl) (by simp) ?_
    refine AllReadyH.cons (o := ⟨some 79, Op.call { callee := Callee.value (Operand.func 17), args := #[Operand.const (Value.int IntKind.u8 5), Operand.const (Value.int IntKind.i64 3)], argTypes := _ }, _, _, _, _⟩) rfl (fun K hK => ?_) AllReadyH.nil
    go_simp
    go_at_call 17; ((with_reducible refine (HDI.out _).mono ?_); rintro e w27 ⟨rfl, hg⟩; have S27 := Lib.hid (S26.out.grown hg); have O27 := Lib.hid (O26.out.grown hg); clear hg)
    go_wp2_with fail
    refine hK.out _ _ (S27.out.rangeN (.head _)) (fun hHeld4 => ?_)
    clear hK K
    try simp only [Act.put, List.setIfInBounds_toArray, List.set_cons_zero, List.set_cons_succ]
    refine wpAnyH_ready (rs := [7]) (by kernel_rfl) (by simp) ?_
    refine AllReadyH.cons (o := ⟨some 82, Op.call { callee := Callee.value (Operand.func 13), args := #[(Operand.tmp 78), (Operand.tmp 79), (Operand.tmp 81)], argTypes := _ }, _, _, _, _⟩) rfl (fun K hK => ?_) AllReadyH.nil
    go_simp
    go_at_call 13; ((with_reducible refine (HKK.out _ _ _ S27.out.own O27.out).mono ?_); rintro e w28 ⟨rfl, ho, hf⟩; have S28 := Lib.hid (S27.out.far ho hf); clear ho hf)
    go_wp2_with fail
    refine hK.out _ _ (S28.out.rangeN (.head _)) (fun hHeld7 => ?_)
    clear hK K
    try simp only [Act.put, List.setIfInBounds_toArray, List.set_cons_zero, List.set_cons_succ]
    refine wpAnyH_take (i := 8) (oi := ⟨some 83, Op.unOp UnOp.not 4 (Operand.tmp 82), _, _, _, _⟩) (v := ?v23) rfl (by kernel_rfl) (by kernel_rfl) (by kernel_rfl) (fun _ _ _ h => h) (Or.inl ⟨by rfl, ?hy23⟩) (by assumption) ?rest23
    case hy23 => ((intro w0 hSw; go_simp); try (with_reducible rfl))
    try simp only [Act.put, List.setIfInBounds_toArray, List.set_cons_zero, List.set_cons_succ]
    refine wpAnyH_take (i := 9) (oi := ⟨some 84, Op.pick (Operand.tmp 77) (Operand.const (Value.bool true)) (Operand.tmp 83), _, _, _, _⟩) (v := ?v24) rfl (by kernel_rfl) (by kernel_rfl) (by kernel_rfl) (fun _ _ _ h => h) (Or.inl ⟨by rfl, ?hy24⟩) (by assumption) ?rest24
    case hy24 => ((intro w0 hSw; go_simp); try (with_reducible rfl))
    try simp only [Act.put, List.setIfInBounds_toArray, List.set_cons_zero, List.set_cons_succ]
    refine wpAnyH_take (i := 10) (oi := ⟨some 85, Op.move (Operand.tmp 84), _, _, _, _⟩) (v := ?v25) rfl (by kernel_rfl) (by kernel_rfl) (by kernel_rfl) (fun _ _ _ h => h) (Or.inl ⟨by rfl, ?hy25⟩) (by assumption) ?rest25
    case hy25 => ((intro w0 hSw; go_simp); try (with_reducible rfl))
    try simp only [Act.put, List.setIfInBounds_toArray, List.set_cons_zero, List.set_cons_succ]
    refine wpAnyH_take (i := 11) (oi := ⟨some 86, Op.move (Operand.tmp 1), _, _, _, _⟩) (v := ?v26) rfl (by kernel_rfl) (by kernel_rfl) (by kernel_rfl) (fun _ _ _ h => h) (Or.inl ⟨by rfl, ?hy26⟩) (by assumption) ?rest26
    case hy26 => ((intro w0 hSw; go_simp); try (with_reducible rfl))
    try simp only [Act.put, List.setIfInBounds_toArray, List.set_cons_zero, List.set_cons_succ]
    refine wpAnyH_ready (rs := [12]) (by kernel_rfl) (by simp) ?_
    refine AllReadyH.cons (o := ⟨some 87, Op.call { callee := Callee.value (Operand.func 17), args := #[Operand.const (Value.int IntKind.u8 8), Operand.const (Value.int IntKind.i64 3)], argTypes := _ }, _, _, _, _⟩) rfl (fun K hK => ?_) AllReadyH.nil
    go_simp
    go_at_call 17; ((with_reducible refine (HDJ.out _).mono ?_); rintro e w29 ⟨rfl, hg⟩; have S29 := Lib.hid (S28.out.grown hg); have O29 := Lib.hid (OutN.nil w w29); clear hg)
    go_wp2_with fail
    refine hK.out _ _ (S29.out.rangeN (.head _)) (fun hHeld12 => ?_)
    clear hK K
    try simp only [Act.put, List.setIfInBounds_toArray, List.set_cons_zero, List.set_cons_succ]
    refine wpAnyH_ready (rs := [13]) (by kernel_rfl) (by simp) ?_
    refine AllReadyH.cons (o := ⟨some 88, Op.call { callee := Callee.value (Operand.func 13), args := #[(Operand.tmp 86), (Operand.tmp 87), Operand.const (Value.slice none 0 0)], argTypes := _ }, _, _, _, _⟩) rfl (fun K hK => ?_) AllReadyH.nil
    go_simp
    go_at_call 13; ((with_reducible refine (HKJ.out _ _ _ S29.out.own O29.out).mono ?_); rintro e w30 ⟨rfl, ho, hf⟩; have S30 := Lib.hid (S29.out.far ho hf); clear ho hf)
    go_wp2_with fail
    refine hK.out _ _ (S30.out.rangeN (.head _)) (fun hHeld13 => ?_)
    clear hK K
    try simp only [Act.put, List.setIfInBounds_toArray, List.set_cons_zero, List.set_cons_succ]
    refine wpAnyH_take (i := 14) (oi := ⟨some 89, Op.unOp UnOp.not 4 (Operand.tmp 88), _, _, _, _⟩) (v := ?v27) rfl (by kernel_rfl) (by kernel_rfl) (by kernel_rfl) (fun _ _ _ h => h) (Or.inl ⟨by rfl, ?hy27⟩) (by assumption) ?rest27
    case hy27 => ((intro w0 hSw; go_simp); try (with_reducible rfl))
    try simp only [Act.put, List.setIfInBounds_toArray, List.set_cons_zero, List.set_cons_succ]
    refine wpAnyH_take (i := 15) (oi := ⟨some 90, Op.pick (Operand.tmp 85) (Operand.const (Value.bool true)) (Operand.tmp 89), _, _, _, _⟩) (v := ?v28) rfl (by kernel_rfl) (by kernel_rfl) (by kernel_rfl) (fun _ _ _ h => h) (Or.inl ⟨by rfl, ?hy28⟩) (by assumption) ?rest28
    case hy28 => ((intro w0 hSw; go_simp); try (with_reducible rfl))
    try simp only [Act.put, List.setIfInBounds_toArray, List.set_cons_zero, List.set_cons_succ]
    refine wpAnyH_take (i := 16) (oi := ⟨some 91, Op.move (Operand.tmp 90), _, _, _, _⟩) (v := ?v29) rfl (by kernel_rfl) (by kernel_rfl) (by kernel_rfl) (fun _ _ _ h => h) (Or.inl ⟨by rfl, ?hy29⟩) (by assumption) ?rest29
    case hy29 => ((intro w0 hSw; go_simp); try (with_reducible rfl))
    try simp only [Act.put, List.setIfInBounds_toArray, List.set_cons_zero, List.set_cons_succ]
    refine wpAnyH_take (i := 17) (oi := ⟨some 92, Op.move (Operand.tmp 1), _, _, _, _⟩) (v := ?v30) rfl (by kernel_rfl) (by kernel_rfl) (by kernel_rfl) (fun _ _ _ h => h) (Or.inl ⟨by rfl, ?hy30⟩) (by assumption) ?rest30
    case hy30 => ((intro w0 hSw; go_simp); try (with_reducible rfl))
    try simp only [Act.put, List.setIfInBounds_toArray, List.set_cons_zero, List.set_cons_succ]
    refine wpAnyH_ready (rs := [18]) (by kernel_rfl) (by simp) ?_
    refine AllReadyH.cons (o := ⟨some 93, Op.call { callee := Callee.value (Operand.func 12), args := #[Operand.const (Value.int IntKind.u8 1), Operand.const (Value.int IntKind.i64 3)], argTypes := _ }, _, _, _, _⟩) rfl (fun K hK => ?_) AllReadyH.nil
    go_simp
    go_at_call 12; ((with_reducible refine (HUE.out _).mono ?_); rintro e w31 ⟨rfl, hg⟩; have S31 := Lib.hid (S30.out.grown hg); clear hg)
    go_wp2_with fail
    refine hK.out _ _ (S31.out.rangeN (.head _)) (fun hHeld18 => ?_)
    clear hK K
    try simp only [Act.put, List.setIfInBounds_toArray, List.set_cons_zero, List.set_cons_succ]
    refine wpAnyH_ready (rs := [19]) (by kernel_rfl) (by simp) ?_
    refine AllReadyH.cons (o := ⟨some 94, Op.buildSlice 43 1 #[(0, (Operand.tmp 93))], _, _, _, _⟩) rfl (fun K hK => ?_) AllReadyH.nil
    go_simp
    have S32 := Lib.hid (S31.out.one nE).1
    have O32 := Lib.hid (S31.out.one nE).2
    refine hK.out _ _ (S32.out.rangeN (.head _)) (fun hHeld19 => ?_)
    clear hK K
    try simp only [Act.put, List.setIfInBounds_toArray, List.set_cons_zero, List.set_cons_succ]
    refine wpAnyH_ready (rs := [20]) (by kernel_rfl) (by simp) ?_
    refine AllReadyH.cons (o := ⟨some 95, Op.call { callee := Callee.value (Operand.func 11), args := #[(Operand.tmp 92), Operand.const (Value.int IntKind.i64 3), Operand.const (Value.bool false), (Operand.tmp 94)], argTypes := _ }, _, _, _, _⟩) rfl (fun K hK => ?_) AllReadyH.nil
    go_simp
    go_at_call 11; ((with_reducible refine (HAE.out _ _ _ S32.out.own O32.out).mono ?_); rintro e w33 ⟨rfl, ho, hf⟩; have S33 := Lib.hid (S32.out.far ho hf); clear ho hf)
    go_wp2_with fail
    refine hK.out _ _ (S33.out.rangeN (.head _)) (fun hHeld20 => ?_)
    clear hK K
    try simp only [Act.put, List.setIfInBounds_toArray, List.set_cons_zero, List.set_cons_succ]
    refine wpAnyH_take (i := 21) (oi := ⟨some 96, Op.unOp UnOp.not 4 (Operand.tmp 95), _, _, _, _⟩) (v := ?v31) rfl (by kernel_rfl) (by kernel_rfl) (by kernel_rfl) (fun _ _ _ h => h) (Or.inl ⟨by rfl, ?hy31⟩) (by assumption) ?rest31
    case hy31 => ((intro w0 hSw; go_simp); try (with_reducible rfl))
    try simp only [Act.put, List.setIfInBounds_toArray, List.set_cons_zero, List.set_cons_succ]
    refine wpAnyH_take (i := 22) (oi := ⟨some 97, Op.pick (Operand.tmp 91) (Operand.const (Value.bool true)) (Operand.tmp 96), _, _, _, _⟩) (v := ?v32) rfl (by kernel_rfl) (by kernel_rfl) (by kernel_rfl) (fun _ _ _ h => h) (Or.inl ⟨by rfl, ?hy32⟩) (by assumption) ?rest32
    case hy32 => ((intro w0 hSw; go_simp); try (with_reducible rfl))
    try simp only [Act.put, List.setIfInBounds_toArray, List.set_cons_zero, List.set_cons_succ]
    refine wpAnyH_done (by kernel_rfl) ?_ _
    go_upto_region 17 with (first | (go_at_call 18; ((with_reducible refine (clear_nil _).mono ?_); rintro e w34 ⟨rfl, rfl⟩)) | (go_at_call 16; ((with_reducible refine (ask_nil _).mono ?_); rintro e w35 ⟨rfl, rfl⟩)) | (go_at_call 19; ((with_reducible refine (load_nil _).mono ?_); rintro e w36 ⟨rfl, hg⟩; have S36 := Lib.hid (S33.out.grown hg); clear hg)) | (go_at_call 15; ((with_reducible refine (store_nil _).mono ?_); rintro e w37 ⟨rfl, hg⟩; have S37 := Lib.hid (S36.out.grown hg); clear hg)))
    have hA := hld B 0 nP _ (S37.out.rangeN (.tail _ (.head _)))
    rw [HT.out]
    go_upto_region 21 with (first | (go_at_call 20; ((with_reducible refine (take_nil nP _).mono ?_); rintro e w38 ⟨rfl, hg⟩; have S38 := Lib.hid (S37.out.grown hg); clear hg)) | (go_at_call 21; ((with_reducible refine (HNL.out _).mono ?_); rintro e w39 ⟨rfl, hg⟩; have S39 := Lib.hid (S38.out.grown hg); clear hg)) | ((with_reducible refine kk.store_new' zL 16 126 ?_ ?_ ?_); ((rfl)); ((rfl))) | (go_at_call 22; ((with_reducible refine (HNT.out _).mono ?_); rintro e w40 ⟨rfl, hg⟩; have S40 := Lib.hid ((S39.out.grown (grown_alloc (grown_refl _ _) _)).grown hg); clear hg)) | ((with_reducible refine tt.store_new zN _ 18 131 ?_ ?_ ?_ ?_); ((rfl)); ((rfl)); ((rfl))) | (go_at_call 23; ((with_reducible refine (HNB.out _).mono ?_); rintro e w41 ⟨rfl, hg⟩; have S41 := Lib.hid ((S40.out.grown (grown_alloc (grown_refl _ _) _)).grown hg); clear hg)) | ((with_reducible refine store_b zD HZD.out 20 136 w41.heap.size 0 ?_ ?_ (HTB.out _) ?_); ((rfl)); ((rfl))))
    have HG := Lib.hid (tt.grown_new (grown_alloc S41.out.own.old (.cells (row zd) 35)) S41.out.own.old.size (grown_setCells _ w41.heap.size 0 (zD.map U)))
    rw [HZB.out] at HG
    obtain ⟨w42, hw42⟩ : ∃ x, (w41.alloc (.cells #[.int .u32 0, .int .u32 0, .int .u32 0, .int .u32 0, .int .u32 0, .int .u32 0, .int .u32 0, .int .u32 0, .int .u32 0, .int .u32 0, .int .u32 0, .int .u32 0, .int .u32 0, .int .u32 0, .int .u32 0, .int .u32 0] 35)).setCells w41.heap.size 0 (zD.map U) = x := ⟨_, rfl⟩
    rw [hw42] at HG ⊢
    go_wp2_with (first | (go_at_call 24; ((with_reducible refine (deal_nil _).mono ?_); rintro e w43 ⟨rfl, rfl⟩)) | (go_at_call 25; ((with_reducible refine (copy_nil _).mono ?_); rintro e w44 ⟨rfl, rfl⟩)))
    go_ret
    exact ⟨rfl, by first | exact HG.out | exact grown_drewN HG.out _ | exact grown_drew (grown_drewN HG.out _) | exact grown_drewN (grown_drew HG.out) _⟩
end Go.Proofs.YtljkohknhphcfaaGreatDoor.nl
