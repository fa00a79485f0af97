/-
  Who goes over a pool of ints is told each place, in order, and what lies there, until a round says 'no more': contracts. No condition but the bounds that each theorem names.
-/
import Derived.Test.YtkamafkajfajpaaC4
namespace Go.Proofs.Ytkamafkajfajpaa.pp
open Go Go.RowKit Go.Shelf
set_option linter.unusedVariables false
attribute [local go_sem] Oper.semAt_some

def encF (xs : List Int) {q : Nat} (p : Fin q) : Array Value := #[.int .i64 ((p.val : Nat) : Int), .int .i64 (xs.getD p.val 0)]
theorem fins_at (n k : Nat) (h : k < n) : (List.finRange n)[k]? = some ⟨k, h⟩ := by
  rw [List.getElem?_eq_getElem (by simp [h])]; simp

set_option maxRecDepth 100000 in
set_option maxHeartbeats 1000000 in
theorem fin1_in (n : Nat) (hn : 1 ≤ n) (l Bn b : Nat) (v : Value) (q : Nat) (xs : List Int) (hq : q = xs.length) (J Jx : List (Fin q) → World → Prop) (hl : q ≤ 65536)
    (hY : ∀ (pre : List (Fin q)) (x : Fin q) W, J pre W → pre.length < q → YieldAt Fence.wide (n - 1) Try.prog l (encF xs x) W fun e W' =>
      (e = .returned (.bool true) ∧ J (pre ++ [x]) W' ∧ Same v W W') ∨ (e = .returned (.bool false) ∧ Jx (pre ++ [x]) W'))
    (W : World) (hBn : W.cell? ⟨Bn, 0, none⟩ = some (.pointer (some ⟨b, 0, none⟩))) (hb : W.cell? ⟨b, 0, none⟩ = some v) (hs : Sl W 3 v (xs.map I)) (h0 : J [] W) :
    CallsIn Fence.wide n Try.prog 32 #[.func (.yield l) #[] #[], .pointer (some ⟨Bn, 0, none⟩)] W fun e W' => (∃ v, e = .returned v) ∧
      ((∃ ys, ys = List.finRange q ∧ J ys W') ∨ (∃ pre, pre <+: List.finRange q ∧ Jx pre W')) := by
  obtain ⟨ad, cap, hv⟩ := hs.form
  rw [List.length_map, ← hq] at hv
  have HQ := Lib.hid hq
  have HS := Lib.hid hs
  clear hq hs
  subst hv
  refine callsIn_of_wp Try.func32 rfl trivial ?_ rfl
  simp only [Try.ntmps32, List.size_toArray, List.length_cons, List.length_nil, Nat.reduceAdd, Nat.reduceSub, Array.replicate_succ, Array.replicate_zero, List.push_toArray, List.append_toArray, List.nil_append, List.cons_append]
  gi_wp2
  gi_loopw [12] (fun i wr => ∃ (k : Nat), k ≤ q ∧ i = .int .i64 (k : Int) ∧ Sl wr 3 (.slice ad q cap) (xs.map I) ∧ J ((List.finRange q).take k) wr)
    (fun i _ => q - (intOf i).toNat)
  case atStart =>
    exact ⟨0, Nat.zero_le _, rfl, HS.out, h0⟩
  case round =>
    obtain ⟨k, hk, rfl, hsr, hJ⟩ := hrel
    by_cases hlt : k < q
    · obtain ⟨x, hx⟩ : ∃ x, xs[k]? = some x := ⟨_, List.getElem?_eq_getElem (by have := HQ.out; omega)⟩
      obtain ⟨g, off, rfl, hcell⟩ := hsr.cellAt k (I x) (by simp [hx])
      obtain ⟨fn, tmps, assign, body, hy, hR⟩ := hY ((List.finRange q).take k) ⟨k, hlt⟩ wr hJ (by rw [List.length_take, List.length_finRange]; omega)
      have HZ := Lib.hid (take_snoc (List.finRange q) k ⟨k, hlt⟩ (fins_at q k hlt))
      have HSR := Lib.hid hsr
      unfold I at hcell
      unfold encF at hy
      rw [show xs.getD (⟨k, hlt⟩ : Fin q).val 0 = x by simp [List.getD_eq_getElem?_getD, hx]] at hy
      clear hx hsr hY
      gi_wp2
      refine hR.mono ?_
      rintro e W3 (⟨rfl, hJ3, hk3⟩ | ⟨rfl, hJx3⟩)
      · have HS3 := Lib.hid (HSR.out.of_block hk3)
        gi_wp2
        go_roundw
        case rel => exact ⟨k + 1, by omega, by go_num, HS3.out, by rw [HZ.out]; exact hJ3⟩
        case measure => simp [intOf]; omega
      · gi_wp2
        refine bodyPost_ret (results_none rfl _ _ _) rfl ?_
        exact ⟨⟨_, rfl⟩, .inr ⟨_, by rw [← HZ.out]; exact List.take_prefix _ _, hJx3⟩⟩
    · have hkn : k = q := by omega
      subst hkn
      gi_wp2
      go_end0
      exact ⟨⟨_, rfl⟩, .inl ⟨_, by rw [List.take_of_length_le (by rw [List.length_finRange]; omega)], hJ⟩⟩

theorem fin_stops (n : Nat) (hn : 1 ≤ n) (Bn b : Nat) (v : Value) (room q : Nat) (xs : List Int) (hq : q = xs.length) (w : World) (hP : IPool w b v room xs) (hl : q ≤ 65536) (hc : w.cell? ⟨Bn, 0, none⟩ = some (.pointer (some ⟨b, 0, none⟩))) :
    SeqStopsK Fence.wide n Try.prog 32 #[.pointer (some ⟨Bn, 0, none⟩)] (encF xs) (Same v) (fun ys => ys = List.finRange q) (fun pre => pre <+: List.finRange q) q w := fun l J Jx W hW _ _ hY h0 =>
  fin1_in n hn l Bn b v q xs hq J Jx hl hY W ((hW.cell (p := ⟨Bn, 0, none⟩) (World.block_lt_of_cell? w _ hc)).trans hc) ((hW.cell (p := ⟨b, 0, none⟩) hP.lt).trans hP.cell0) (hP.sl.of_block fun g hg => hW.block g (hP.sl.lt g hg)) h0
end Go.Proofs.Ytkamafkajfajpaa.pp
