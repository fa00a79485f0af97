/-
  A net in memory; what New, Len, At, Hops, isOf and hops answer: contracts. Condition: the tables of bounds and of kinds lie in their variables as the program's text has them.
-/
import Derived.Test.YtoemkhmbeiindaaDoorNm
import Derived.Test.YtoemkhmbeiindaaDoorPi
namespace Go.Proofs.YtoemkhmbeiindaaDoor.tt
open Go Go.ChangeShapes Go.WideShapes Go.ChangeAt Go.RowKit
set_option linter.unusedVariables false

/-- The cells of a net: its plan, its room, its pool, how far those that were taken went. -/
def netc (c : Cfg) (r p : Nat) (h : Int) : Array Value := #[.int .i64 c.co, .int .i64 c.se, .int .i64 c.wa, .int .i64 c.bl, .int .i64 c.lo, .int .i64 c.ba, .int .i64 c.ne, .int .i64 c.tr, .int .i64 (r : Int), .pointer (some ⟨p, 0, none⟩), .int .i64 h]
structure NetAt (w : World) (t p : Nat) (c : Cfg) (r : Nat) (v : Value) (ns : List Nt) (h : Int) : Prop where
  blk : w.heap[t]? = some (.cells (netc c r p h) 74 (0, 0))
  pool : NPool w p v (capOf c r) ns
  inv : NInv c r ns

section
variable {w w' : World} {t p r : Nat} {c : Cfg} {v : Value} {ns : List Nt} {h : Int}
theorem NetAt.lt (H : NetAt w t p c r v ns h) : t < w.heap.size := lt_of H.blk
theorem NetAt.tp (H : NetAt w t p c r v ns h) : t ≠ p := tyne H.blk H.pool.blk (by decide)
theorem NetAt.tv (H : NetAt w t p c r v ns h) : some t ≠ v.ownBlock := fun e => by
  obtain ⟨cur, hc⟩ := H.pool.sl.type t e.symm
  exact tyne H.blk hc (by decide) rfl
theorem NetAt.of_block (H : NetAt w t p c r v ns h) (h1 : w'.heap[t]? = w.heap[t]?) (h2 : w'.heap[p]? = w.heap[p]?) (h3 : ∀ g, v.ownBlock = some g → w'.heap[g]? = w.heap[g]?) : NetAt w' t p c r v ns h := ⟨h1.trans H.blk, H.pool.of_block h2 h3, H.inv⟩
theorem NetAt.grown (H : NetAt w t p c r v ns h) (hg : w.grownBy w' none) : NetAt w' t p c r v ns h := ⟨(hg.block t H.lt (by simp)).trans H.blk, H.pool.grown hg, H.inv⟩
theorem NetAt.cell (H : NetAt w t p c r v ns h) (k : Nat) (x : Value) (hx : (netc c r p h)[k]? = some x) : w.cell? ⟨t, k, none⟩ = some x := (cell_of_row _ _ k _ _ _ H.blk).trans hx
theorem NetAt.c0 (H : NetAt w t p c r v ns h) : w.cell? ⟨t, 0, none⟩ = some (.int .i64 c.co) := H.cell 0 _ rfl
theorem NetAt.c8 (H : NetAt w t p c r v ns h) : w.cell? ⟨t, 8, none⟩ = some (.int .i64 (r : Int)) := H.cell 8 _ rfl
theorem NetAt.c9 (H : NetAt w t p c r v ns h) : w.cell? ⟨t, 9, none⟩ = some (.pointer (some ⟨p, 0, none⟩)) := H.cell 9 _ rfl
theorem NetAt.c10 (H : NetAt w t p c r v ns h) : w.cell? ⟨t, 10, none⟩ = some (.int .i64 h) := H.cell 10 _ rfl
theorem NetAt.frozen (H : NetAt w t p c r v ns h) (k : Nat) : w.frozen? ⟨t, k, none⟩ = false := frozen_of_row _ _ _ _ _ H.blk
end

/-- What a call on a net leaves alone. -/
structure NTurn (w w' : World) (t p : Nat) (v v' : Value) : Prop where
  os : w'.os = w.os
  tape : w'.tape = w.tape
  output : w'.output = w.output
  size : w.heap.size ≤ w'.heap.size
  block : ∀ k, k < w.heap.size → k ≠ t → k ≠ p → some k ≠ v.ownBlock → w'.heap[k]? = w.heap[k]?
  next : Next w w' v v'
section
variable {w w' : World} {t p : Nat} {v v' : Value}
theorem NTurn.of_grown (t p : Nat) (v : Value) (h : w.grownBy w' none) : NTurn w w' t p v v := ⟨h.os, h.tape, h.output, h.size, fun k hk _ _ _ => h.block k hk (by simp), .inl rfl⟩
theorem NTurn.of_turn (t : Nat) (h : Turn w w' p v v') : NTurn w w' t p v v' := ⟨h.os, h.tape, h.output, h.size, fun k hk _ h1 h2 => h.block k hk h1 h2, h.next⟩
theorem NTurn.trans {a b c : World} {t p : Nat} {v v' v'' : Value} (h : NTurn a b t p v v') (k : NTurn b c t p v' v'') : NTurn a c t p v v'' :=
  ⟨k.os.trans h.os, k.tape.trans h.tape, k.output.trans h.output, Nat.le_trans h.size k.size, fun i hi ht hp hv => (k.block i (Nat.lt_of_lt_of_le hi h.size) ht hp (h.next.ne hi hv)).trans (h.block i hi ht hp hv), by
    rcases k.next with k1 | k1
    · rcases h.next with h1 | h1
      · exact .inl (k1.trans h1)
      · exact .inr fun i hi => h1 i (k1 ▸ hi)
    · exact .inr fun i hi => Nat.le_trans h.size (k1 i hi)⟩
theorem NTurn.grown {a b c : World} {t p : Nat} {v v' : Value} (h : NTurn a b t p v v') (k : b.grownBy c none) : NTurn a c t p v v' := h.trans (NTurn.of_grown t p v' k)
/-- Where all of the net is new, all that was ahead of it stays. -/
theorem NTurn.new {W : World} (h : NTurn w w' t p v v') (hg : W.grownBy w none) (ht : W.heap.size ≤ t) (hp : W.heap.size ≤ p) (hv : ∀ k, v.ownBlock = some k → W.heap.size ≤ k) : W.grownBy w' none ∧ ∀ k, v'.ownBlock = some k → W.heap.size ≤ k :=
  ⟨⟨h.os.trans hg.os, h.tape.trans hg.tape, h.output.trans hg.output, Nat.le_trans hg.size h.size, fun k hk _ => (h.block k (Nat.lt_of_lt_of_le hk hg.size) (by omega) (by omega) (fun e => by have := hv k e.symm; omega)).trans (hg.block k hk (by simp))⟩, h.next.ge hg.size hv⟩
end

set_option maxRecDepth 100000 in
set_option maxHeartbeats 1000000 in
theorem nnew_bad (c : Cfg) (room : Int) (w : World) (hT : Tab w) (h : ¬ (c.may ∧ 1 ≤ room ∧ room ≤ 1024)) : Calls Tryd.prog 9 #[.agg c.cells, .int .i64 room] w fun e w' => e = .returned (.tuple #[.pointer none, .int .i64 2]) ∧ w.grownBy w' none := by
  have HG0 : Hid (w.grownBy (w.alloc (.cells c.cells 27)) none) := Lib.hid (grown_alloc (grown_refl _ _) _)
  have HM := Lib.hid (may_any c (w.alloc (.cells c.cells 27)) (hT.grown HG0.out))
  by_cases hm : c.may
  · rw [yes_of hm] at HM
    have h2 : room < 1 ∨ ¬ room < 1 ∧ 1024 < room := by
      by_cases h1 : room < 1
      · exact .inl h1
      · exact .inr ⟨h1, by have : ¬ room ≤ 1024 := fun h3 => h ⟨hm, by omega, h3⟩; omega⟩
    clear h hm hT
    unfold Cfg.cells at *
    rcases h2 with h1 | ⟨h1, h2⟩
    · go_enter Tryd.func9, Tryd.ntmps9
      go_wp2_with (go_at_call 30; ((with_reducible refine HM.out.mono ?_); rintro e w1 ⟨rfl, hg1⟩; have HG1 := Lib.hid hg1; clear hg1))
      go_ret2
      exact ⟨rfl, grown_trans HG0.out HG1.out⟩
    · have h3 : decide (room < 1) = false := by simp; omega
      have h4 : decide (1024 < room) = true := by simp; omega
      clear h1 h2
      go_enter Tryd.func9, Tryd.ntmps9
      go_wp2_with (go_at_call 30; ((with_reducible refine HM.out.mono ?_); rintro e w1 ⟨rfl, hg1⟩; have HG1 := Lib.hid hg1; clear hg1))
      go_ret2
      exact ⟨rfl, grown_trans HG0.out HG1.out⟩
  · rw [yes_not hm] at HM
    clear h hm hT
    unfold Cfg.cells at *
    go_enter Tryd.func9, Tryd.ntmps9
    go_wp2_with (go_at_call 30; ((with_reducible refine HM.out.mono ?_); rintro e w1 ⟨rfl, hg1⟩; have HG1 := Lib.hid hg1; clear hg1))
    go_ret2
    exact ⟨rfl, grown_trans HG0.out HG1.out⟩
theorem mul_facts (c : Cfg) (r : Nat) (h : c.may) (h1 : 1 ≤ r) (h2 : r ≤ 1024) : IntKind.i64.wrap ((c.co + 1) * 3) = (c.co + 1) * 3 ∧ IntKind.i64.wrap ((c.co + 1) * 3 * (r : Int)) = (capOf c r : Int) := by
  have := co_bounds h
  have hb := cap_bounds h h1 h2
  rw [cap_int h]
  exact ⟨IntWalk.i64_in _ (by omega), IntWalk.i64_in _ (by omega)⟩
set_option maxRecDepth 100000 in
set_option maxHeartbeats 1000000 in
theorem nnew_ok (c : Cfg) (r : Nat) (w : World) (hT : Tab w) (hm : c.may) (h1 : 1 ≤ r) (h2 : r ≤ 1024) : Calls Tryd.prog 9 #[.agg c.cells, .int .i64 (r : Int)] w fun e w' => ∃ t p, e = .returned (.tuple #[.pointer (some ⟨t, 0, none⟩), .int .i64 0]) ∧ NetAt w' t p c r (.slice none 0 0) [] 0 ∧ w.grownBy w' none ∧ w.heap.size ≤ t ∧ w.heap.size ≤ p := by
  have HG0 : Hid (w.grownBy (w.alloc (.cells c.cells 27)) none) := Lib.hid (grown_alloc (grown_refl _ _) _)
  have HA := Lib.hid (cfg_at w c)
  have HM := Lib.hid (may_any c (w.alloc (.cells c.cells 27)) (hT.grown HG0.out))
  rw [yes_of hm] at HM
  have hcb := cap_bounds hm h1 h2
  have HN : Hid (∀ w, _) := Lib.hid fun w => pnew_ok (capOf c r) w hcb.1 (by omega)
  have HI := Lib.hid (NInv.nil hm h1 h2)
  have hmf := mul_facts c r hm h1 h2
  have hco := co_bounds hm
  obtain ⟨q, hq⟩ : ∃ q, q = capOf c r := ⟨_, rfl⟩
  have HQ := Lib.hid hq
  rw [← hq] at HN hmf
  have hm1 := hmf.1
  have hm2 := hmf.2
  obtain ⟨hc1, hc2⟩ := hco
  clear hT hm hmf hq hcb
  unfold Cfg.cells at *
  go_enter Tryd.func9, Tryd.ntmps9
  go_wp2_with (first
    | (go_at_call 30; ((with_reducible refine HM.out.mono ?_); rintro e w1 ⟨rfl, hg1⟩; obtain ⟨c0, c1, c2, c3, c4, c5, c6, c7⟩ := HA.out.grown hg1; have HG1 := Lib.hid hg1; have HZ1 := Lib.hid hg1.size; clear hg1))
    | (go_at_call 31; ((with_reducible refine (HN.out _).mono ?_); rintro e w2 ⟨rfl, hw2⟩; have HW2 := Lib.hid hw2; have hg2 : w1.grownBy w2 none := (by rw [hw2]; exact grown_alloc (grown_refl _ _) _); obtain ⟨d0, d1, d2, d3, d4, d5, d6, d7⟩ := (HA.out.grown (grown_trans HG1.out hg2)); have HG2 := Lib.hid hg2; clear hg2 hw2)))
  go_ret2
  have hw2 := HW2.out
  have hz1 := HZ1.out
  have hz2 := HG2.out.size
  simp at hz1
  have hpb : w2.heap[w1.heap.size]? = some (.cells #[.slice none 0 0, .int .i64 (q : Int)] 96 (0, 0)) := by rw [hw2]; exact heap_alloc_new _ _
  have hlt := lt_of hpb
  refine ⟨w2.heap.size, w1.heap.size, rfl, ⟨heap_alloc_new _ _, ⟨(Below.heap_alloc _ _ _ hlt).trans (by rw [← HQ.out]; exact hpb), Sl.nil _ _ _, by simp [Value.ownBlock]⟩, HI.out⟩, grown_alloc (grown_trans (grown_trans HG0.out HG1.out) HG2.out) _, by omega, by omega⟩

section
variable (t p : Nat) (c : Cfg) (r : Nat) (v : Value) (ns : List Nt) (h : Int) (w : World) (H : NetAt w t p c r v ns h)
include H
theorem nlen_any : Calls Tryd.prog 17 #[.pointer (some ⟨t, 0, none⟩)] w fun e w' => e = .returned (.int .i64 (ns.length : Int)) ∧ w = w' := by
  have c9 := H.c9
  have HP := Lib.hid (plen_any p v (capOf c r) ns w H.pool)
  clear H
  go_enter Tryd.func17, Tryd.ntmps17
  go_wp2_with (go_at_call 37; ((with_reducible refine HP.out.mono ?_); rintro e w1 ⟨rfl, rfl⟩))
  go_ret
  exact ⟨rfl, rfl⟩
theorem nhops_any : Calls Tryd.prog 15 #[.pointer (some ⟨t, 0, none⟩)] w fun e w' => e = .returned (.int .i64 h) ∧ w = w' := by
  have c10 := H.c10
  clear H
  go_enter Tryd.func15, Tryd.ntmps15
  go_wp2
  go_ret
  exact ⟨rfl, rfl⟩
set_option maxRecDepth 100000 in
set_option maxHeartbeats 1000000 in
theorem nat_out (i : Int) (hi : i < 0 ∨ (ns.length : Int) ≤ i) : Calls Tryd.prog 16 #[.pointer (some ⟨t, 0, none⟩), .int .i64 i] w fun e w' => e = .returned (.tuple #[.agg (na zn), .int .i64 5]) ∧ w.grownBy w' none := by
  obtain ⟨w2, hw, hg2, hb2, hs2⟩ := onez w
  have hz : na zn = _ := bare_na 0 0 0 0 0 0 false false
  rw [hz] at hw
  have H2 := H.grown hg2
  have c9 := H2.c9
  have HA := Lib.hid (pat_out p v (capOf c r) ns i w2 H2.pool hi)
  have HG := Lib.hid hg2
  have HB := Lib.hid hb2
  have HS := Lib.hid hs2
  clear H H2 hi hz hg2 hb2 hs2
  go_enter Tryd.func16, Tryd.ntmps16
  go_wp2_with (first
    | (go_at_call 36; ((with_reducible refine HA.out.mono ?_); rintro e w3 ⟨rfl, hg3⟩; have HG3 := Lib.hid hg3; clear hg3))
    | ((with_reducible refine store_any zn _ _ _ w.heap.size ?_ ?_ ((HG3.out.block w.heap.size (by rw [HS.out]; omega) (by simp)).trans HB.out) ?_ ?_); (rfl); (rfl); (rfl)))
  have hres := set_res (grown_trans HG.out HG3.out) ((HG3.out.block w.heap.size (by rw [HS.out]; omega) (by simp)).trans HB.out) zn
  exact ret_nte rfl _ zn _ w.heap.size _ _ (by rfl) (by rfl) hres.1 ⟨rfl, hres.2⟩
set_option maxRecDepth 100000 in
set_option maxHeartbeats 1000000 in
theorem nat_in (k : Nat) (x : Nt) (hx : ns[k]? = some x) : Calls Tryd.prog 16 #[.pointer (some ⟨t, 0, none⟩), .int .i64 (k : Int)] w fun e w' => e = .returned (.tuple #[.agg (na x), .int .i64 0]) ∧ w.grownBy w' none := by
  obtain ⟨w2, hw, hg2, hb2, hs2⟩ := onez w
  have hz : na zn = _ := bare_na 0 0 0 0 0 0 false false
  rw [hz] at hw
  have H2 := H.grown hg2
  have c9 := H2.c9
  have HA := Lib.hid (pat_in p v (capOf c r) ns k x w2 H2.pool hx)
  have HG := Lib.hid hg2
  have HB := Lib.hid hb2
  have HS := Lib.hid hs2
  clear H H2 hx hz hg2 hb2 hs2
  go_enter Tryd.func16, Tryd.ntmps16
  go_wp2_with (first
    | (go_at_call 36; ((with_reducible refine HA.out.mono ?_); rintro e w3 ⟨rfl, hg3⟩; have HG3 := Lib.hid hg3; clear hg3))
    | ((with_reducible refine store_any x _ _ _ w.heap.size ?_ ?_ ((HG3.out.block w.heap.size (by rw [HS.out]; omega) (by simp)).trans HB.out) ?_ ?_); (rfl); (rfl); (rfl)))
  have hres := set_res (grown_trans HG.out HG3.out) ((HG3.out.block w.heap.size (by rw [HS.out]; omega) (by simp)).trans HB.out) x
  exact ret_nte rfl _ x _ w.heap.size _ _ (by rfl) (by rfl) hres.1 ⟨rfl, hres.2⟩
end

/-- hops of a note. -/
theorem inB_px {n : Int} (h1 : -1 ≤ n) (h2 : n ≤ 15) : inB (px n) = true ∧ inB (py n) = true := by
  unfold px py
  split <;> simp [inB] <;> omega
set_option maxHeartbeats 1000000 in
theorem hops_any (n : Nt) (hn : n.ok) (w : World) : Calls Tryd.prog 35 #[.agg (na n)] w fun e w' => e = .returned (.int .i64 (far n)) ∧ w.grownBy w' none := by
  obtain ⟨⟨h1, h2⟩, h3, h4⟩ := ok_ends hn
  have HF : Hid (∀ w, _) := Lib.hid fun w => node_yes n.f w h1 h2
  have HT : Hid (∀ w, _) := Lib.hid fun w => node_yes n.t w h3 h4
  have HH : Hid (∀ w, _) := Lib.hid fun w => hops_yes (px n.f) (py n.f) (px n.t) (py n.t) w (inB_px h1 h2).1 (inB_px h1 h2).2 (inB_px h3 h4).1 (inB_px h3 h4).2
  have c1 := box w n 1 _ rfl
  have c2 := box w n 2 _ rfl
  clear hn h1 h2 h3 h4
  go_enter Tryd.func35, Tryd.ntmps35
  go_wp2_with (first
    | (go_at_call 57; ((with_reducible refine (HF.out _).mono ?_); rintro e w1 ⟨rfl, rfl⟩))
    | (go_at_call 57; ((with_reducible refine (HT.out _).mono ?_); rintro e w1 ⟨rfl, rfl⟩))
    | (go_at_call 58; ((with_reducible refine (HH.out _).mono ?_); rintro e w1 ⟨rfl, rfl⟩)))
  go_ret
  exact ⟨rfl, grown_alloc (grown_refl _ _) _⟩
end Go.Proofs.YtoemkhmbeiindaaDoor.tt
