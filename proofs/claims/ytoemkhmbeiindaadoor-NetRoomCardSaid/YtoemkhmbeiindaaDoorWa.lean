/-
  A net all of whose blocks are new: what its calls answer; that notes are sent and taken (works): contracts. Condition: the tables of bounds and of kinds lie in their variables as the program's text has them.
-/
import Derived.Test.YtoemkhmbeiindaaDoorNe
namespace Go.Proofs.YtoemkhmbeiindaaDoor.tt
open Go Go.ChangeShapes Go.WideShapes Go.ChangeAt Go.RowKit
set_option linter.unusedVariables false

/-- A net in blocks that were made behind the world w0, of which all is left as it was. -/
structure Own (w0 w : World) (t p : Nat) (c : Cfg) (r : Nat) (v : Value) (ns : List Nt) (h : Int) : Prop where
  net : NetAt w t p c r v ns h
  old : w0.grownBy w none
  t : w0.heap.size ≤ t
  p : w0.heap.size ≤ p
  v : ∀ k, v.ownBlock = some k → w0.heap.size ≤ k
section
variable {w0 w w' : World} {t p r : Nat} {c : Cfg} {v v' : Value} {ns ns' : List Nt} {h h' : Int}
theorem Own.grown (H : Own w0 w t p c r v ns h) (hg : w.grownBy w' none) : Own w0 w' t p c r v ns h := ⟨H.net.grown hg, grown_trans H.old hg, H.t, H.p, H.v⟩
theorem Own.turn (H : Own w0 w t p c r v ns h) (hN : NetAt w' t p c r v' ns' h') (hT : NTurn w w' t p v v') : Own w0 w' t p c r v' ns' h' :=
  have hn := hT.new H.old H.t H.p H.v
  ⟨hN, hn.1, H.t, H.p, hn.2⟩
theorem Own.from (H : Own w w' t p c r v ns h) (hg : w0.grownBy w none) : Own w0 w' t p c r v ns h := ⟨H.net, grown_trans hg H.old, Nat.le_trans hg.size H.t, Nat.le_trans hg.size H.p, fun k hk => Nat.le_trans hg.size (H.v k hk)⟩
/-- A step that turns one block at most, which is none of the net's. -/
theorem Own.beside (H : Own w0 w t p c r v ns h) {g : Option Nat} (hg : w.grownBy w' g) (h0 : ∀ k, g = some k → w0.heap.size ≤ k) (h1 : some t ≠ g) (h2 : some p ≠ g) (h3 : ∀ k, v.ownBlock = some k → some k ≠ g) : Own w0 w' t p c r v ns h :=
  ⟨H.net.of_block (hg.block t H.net.lt h1) (hg.block p H.net.pool.lt h2) (fun k hk => hg.block k (H.net.pool.sl.lt k hk) (h3 k hk)), ⟨hg.os.trans H.old.os, hg.tape.trans H.old.tape, hg.output.trans H.old.output, Nat.le_trans H.old.size hg.size, fun k hk _ => (hg.block k (Nat.lt_of_lt_of_le hk H.old.size) (fun e => by have := h0 k e.symm; omega)).trans (H.old.block k hk (by simp))⟩, H.t, H.p, H.v⟩
theorem own_new_bad (c : Cfg) (room : Int) (w : World) (hT : Tab w) (h : ¬ (c.may ∧ 1 ≤ room ∧ room ≤ 1024)) : Calls Tryd.prog 9 #[.agg c.cells, .int .i64 room] w fun e w' => e = .returned (.tuple #[.pointer none, .int .i64 2]) ∧ w.grownBy w' none := nnew_bad c room w hT h
theorem own_new (c : Cfg) (r : Nat) (w : World) (hT : Tab w) (hm : c.may) (h1 : 1 ≤ r) (h2 : r ≤ 1024) : Calls Tryd.prog 9 #[.agg c.cells, .int .i64 (r : Int)] w fun e w' => ∃ t p, e = .returned (.tuple #[.pointer (some ⟨t, 0, none⟩), .int .i64 0]) ∧ Own w w' t p c r (.slice none 0 0) [] 0 :=
  (nnew_ok c r w hT hm h1 h2).mono fun e w' ⟨t, p, he, hN, hg, ht, hp⟩ => ⟨t, p, he, hN, hg, ht, hp, fun k hk => by simp [Value.ownBlock] at hk⟩
section
variable (hT : Tab w0) (hK : TabK w0) (H : Own w0 w t p c r v ns h)
include H
theorem own_take_out (i : Int) (hi : i < 0 ∨ (ns.length : Int) ≤ i) : Calls Tryd.prog 14 #[.pointer (some ⟨t, 0, none⟩), .int .i64 i] w fun e w' => e = .returned (.tuple #[.agg (na zn), .int .i64 5]) ∧ w.grownBy w' none := ntake_out t p c r v ns h w H.net i hi
theorem own_take (k : Nat) (x : Nt) (hx : ns[k]? = some x) (h1 : 0 ≤ h) (h2 : h ≤ 1000000000) : Calls Tryd.prog 14 #[.pointer (some ⟨t, 0, none⟩), .int .i64 (k : Int)] w fun e w' => e = .returned (.tuple #[.agg (na x), .int .i64 0]) ∧ ∃ v', Own w0 w' t p c r v' (ns.eraseIdx k) (h + far x) ∧ NTurn w w' t p v v' :=
  (ntake_in t p c r v ns h w H.net k x hx h1 h2).mono fun e w' ⟨he, v', hN, hTt⟩ => ⟨he, v', H.turn hN hTt, hTt⟩
theorem own_takeI (i : Int) (k : Nat) (hik : (k : Int) = i) (x : Nt) (hx : ns[k]? = some x) (h1 : 0 ≤ h) (h2 : h ≤ 1000000000) : Calls Tryd.prog 14 #[.pointer (some ⟨t, 0, none⟩), .int .i64 i] w fun e w' => e = .returned (.tuple #[.agg (na x), .int .i64 0]) ∧ ∃ v', Own w0 w' t p c r v' (ns.eraseIdx k) (h + far x) ∧ NTurn w w' t p v v' := by
  subst hik; exact own_take H k x hx h1 h2
theorem own_copy : Calls Tryd.prog 19 #[.pointer (some ⟨t, 0, none⟩)] w fun e w' => ∃ t' p' v', e = .returned (.pointer (some ⟨t', 0, none⟩)) ∧ Own w w' t' p' c r v' ns h :=
  (ncopy_any t p c r v ns h w H.net).mono fun e w' ⟨t', p', v', he, hN, hg, ht, hp, hv⟩ => ⟨t', p', v', he, hN, hg, ht, hp, hv⟩
theorem own_len : Calls Tryd.prog 17 #[.pointer (some ⟨t, 0, none⟩)] w fun e w' => e = .returned (.int .i64 (ns.length : Int)) ∧ w = w' := nlen_any t p c r v ns h w H.net
theorem own_hops : Calls Tryd.prog 15 #[.pointer (some ⟨t, 0, none⟩)] w fun e w' => e = .returned (.int .i64 h) ∧ w = w' := nhops_any t p c r v ns h w H.net
include hT hK
theorem own_send (n : Nt) : Calls Tryd.prog 12 #[.pointer (some ⟨t, 0, none⟩), .agg (na n)] w fun e w' => e = .returned (.int .i64 (sendE c r ns n)) ∧ ∃ v', Own w0 w' t p c r v' (sendN c r ns n) h ∧ NTurn w w' t p v v' :=
  (nsend_any t p c r v ns h n w H.net (hT.grown H.old) (hK.grown H.old)).mono fun e w' ⟨he, v', hN, hTt⟩ => ⟨he, v', H.turn hN hTt, hTt⟩
end
end

/-- A note of a core to the home. -/
def upn (k core b : Int) : Nt := bare k core (-1) b 0 0 false false
theorem ret_ntp {fn : Func} {p : Tmp} (hres : fn.results = #[.cell p 37]) (w : World) (n : Nt) (B : Nat) (tmps : Array Value) (Q : Ending → World → Prop) (h4 : tmps.getD p undef = .pointer (some ⟨B, 0, none⟩))
    (hr : w.rangeAt B 0 (nt n)) (hQ : Q (.returned (.agg (na n))) w) : bodyPost Tryd.prog fn Q .ret { tmps := tmps, defers := [] } w := by
  refine bodyPost_ret (v := .agg (na n)) ?_ rfl hQ
  have := run_loadVar_mid (P := Tryd.prog) w B 0 37 (nt n) _ hr Tryd.underlying37 rfl (info31' n)
  have h4' : tmps[p]?.getD undef = .pointer (some ⟨B, 0, none⟩) := by simpa using h4
  simp [results, hres, h4', asAddr, this, na]
theorem up_any (k core b : Int) (w : World) : Calls Tryd.prog 13 #[.int .u8 k, .int .i64 core, .int .i64 b] w fun e w' => e = .returned (.agg (na (upn k core b))) ∧ w.grownBy w' none := by
  have HZ : Hid (na (upn k core b) = _) := Lib.hid (bare_na k core (-1) b 0 0 false false)
  go_enter Tryd.func13, Tryd.ntmps13
  go_wp2_with ((with_reducible refine store_lit _ _ HZ.out _ _ _ ?_ ?_ ?_ ?_); (rfl); (rfl); (rfl))
  exact ret_ntp rfl _ (upn k core b) w.heap.size _ _ (by rfl) (range_of (heap_alloc_new w (.cells (na (upn k core b)) 37))) ⟨rfl, grown_alloc (grown_refl _ _) _⟩
theorem info27 : (Tryd.prog.info? 27).map (·.size) = some 8 := by kernel_rfl
/-- The plan of the examples. -/
def c2 : Cfg := ⟨2, 2, 2, 10, 1, 1, 1, 0⟩
theorem two_any (w : World) : Calls Tryd.prog 10 #[] w fun e w' => e = .returned (.agg c2.cells) ∧ w.grownBy w' none := by
  go_enter Tryd.func10, Tryd.ntmps10
  go_wp2
  refine bodyPost_ret (v := .agg c2.cells) (results_cell_row rfl _ _ w.heap.size 27 c2.cells (0, 0) _ rfl (heap_alloc_new _ _) Tryd.underlying27 rfl info27) rfl ?_
  exact ⟨rfl, grown_alloc (grown_refl _ _) _⟩
theorem c2_may : c2.may := by decide +kernel
theorem k1 : sendE c2 1 [] (upn 1 1 5) = 0 ∧ sendN c2 1 [] (upn 1 1 5) = [upn 1 1 5] := by decide +kernel
theorem k2 : sendE c2 1 [upn 1 1 5] (upn 2 0 6) = 7 ∧ sendN c2 1 [upn 1 1 5] (upn 2 0 6) = [upn 1 1 5] := by decide +kernel
theorem k3 : sendE c2 1 [upn 1 1 5] (upn 11 0 6) = 0 ∧ sendN c2 1 [upn 1 1 5] (upn 11 0 6) = [upn 1 1 5, upn 11 0 6] := by decide +kernel
theorem k4 : far (upn 11 0 6) = 1 := by decide +kernel
end Go.Proofs.YtoemkhmbeiindaaDoor.tt
