/-
  What New, Copy answer, and the memories that they make: contracts. No condition but the bounds that each theorem names.
-/
import Derived.Test.YtfjjmlmkpdpdfaaDoorMeC3
import Derived.WalkSpells
namespace Go.Proofs.YtfjjmlmkpdpdfaaDoor.pp
open Go Go.ChangeShapes Go.WideShapes Go.ChangeAt Go.RowKit
set_option linter.unusedVariables false

theorem bits_small (n : Nat) (hn : n ≤ 256) : bits .and .u64 (n : Int) 4294967295 = (n : Int) := by
  have : ∀ m : Fin 257, bits .and .u64 ((m.val : Nat) : Int) 4294967295 = (m.val : Int) := by decide +kernel
  exact this ⟨n, by omega⟩
theorem mul64_any (n : Nat) (hn : n ≤ 256) (w : World) : Calls Tryd.prog 51 #[.int .u64 1, .int .u64 (n : Int)] w fun e w' => e = .returned (.tuple #[.int .u64 0, .int .u64 (n : Int)]) ∧ w = w' := by
  have hb := bits_small n hn
  have hb1 : bits .and .u64 1 4294967295 = 1 := bits_small 1 (by omega)
  have hb0 : bits .and .u64 0 4294967295 = 0 := bits_small 0 (by omega)
  have hd : (n : Int) / 4294967296 = 0 := by omega
  have hw : IntKind.u64.wrap (n : Int) = n := by simp [IntKind.wrap, IntKind.bits, IntKind.signed]; omega
  have hw0 : IntKind.u64.wrap 0 = 0 := by decide
  go_enter Tryd.func51, Tryd.ntmps51
  go_wp2
  go_ret2
  exact ⟨rfl, rfl⟩
theorem mul_any (n : Nat) (hn : n ≤ 256) (w : World) : Calls Tryd.prog 45 #[.int .u64 1, .int .u64 (n : Int)] w fun e w' => e = .returned (.tuple #[.int .u64 0, .int .u64 (n : Int)]) ∧ w = w' := by
  have HM := Lib.hid (mul64_any n hn w)
  go_enter Tryd.func45, Tryd.ntmps45
  go_wp2_with (go_at_call 51; ((with_reducible refine HM.out.mono ?_); rintro e w' ⟨rfl, rfl⟩))
  go_ret2
  exact ⟨rfl, rfl⟩

/-- make of n zero things of one cell, written out. -/
theorem make_at {P : Program} {w : World} {ops : Array Oper} {rest : List Oper} {a : Act} {Q : Exit → Act → World → Prop} {dst : Option Tmp} {ty : TypeId} {pos : String} {after : Array Edge}
    (t e : TypeId) (i : TypeInfo) (z : Value) (l c : Tmp) (n : Nat) (ht : P.underlying t = some (.slice e)) (hi : P.info? e = some i) (hz : i.zero = some z) (h1 : i.size = 1) (hc : z.cells = #[z])
    (el : a.eval (.tmp l) = .int .i64 (n : Int)) (ec : a.eval (.tmp c) = .int .i64 (n : Int)) (hb : (i.bytes : Int) * (n : Int) ≤ 281474976710656) (h63 : (n : Int) ≤ 9223372036854775807)
    (cs : List Value) (hcs : cs = List.replicate n z) (h : wpList P ops Q rest (a.put dst (.slice (some ⟨w.heap.size, 0, none⟩) n n)) (w.alloc (.cells cs.toArray e))) : wpList P ops Q (⟨dst, .makeSlice t (.tmp l) (.tmp c), ty, pos, after, none⟩ :: rest) a w := by
  subst hcs
  refine wpList_plain rfl fun K hK' => ?_
  have hrun := run_make (P := P) w t e i z ht hi hz .i64 .i64 n n (by omega) (Int.le_refl _) hb h63
  have hm : madeCells z.cells ((n : Int).toNat * i.size) = (List.replicate n z).toArray := by
    rw [h1, hc, Int.toNat_natCast, Nat.mul_one]
    apply Array.ext
    · simp [madeCells]
    · intro k h1 h2; simp [madeCells, Nat.mod_one]
  rw [hm, Int.toNat_natCast] at hrun
  unfold Oper.wp
  simp [execOp, el, ec, hrun, Result.andThen]
  exact hK' _ _ h

/-- copy within one block, in a region that draws its order. -/
theorem step_copy {w : World} {ops : Array Oper} {o : Oper} {a : Act} {K : Act → World → Prop} {Q : Exit → Act → World → Prop} {E : Prop} (hgd : o.guard = none) (d s : Operand)
    (ho : o.op = .call { callee := .builtin .copy, args := #[d, s], argTypes := #[72, 72] }) (g off dl dc sl sc : Nat) (cur : Array Value) (cs : List Value)
    (hd : a.eval d = .slice (some ⟨g, off, none⟩) dl dc) (hs : a.eval s = .slice (some ⟨g, 0, none⟩) sl sc) (hg : w.heap[g]? = some (.cells cur 74 (0, 0))) (hn : cs.length = Nat.min sl dl)
    (hsrc : ∀ (j : Nat) v, cs[j]? = some v → cur[j]? = some v) (hfit : off + cs.length ≤ cur.size) (h1 : ∀ v ∈ cs, v.oneCell' = true) (new : List Value) (hnew : new = cur.toList.take off ++ cs ++ cur.toList.drop (off + cs.length))
    (h : K (a.put o.dst (.int .i64 (cs.length : Int))) (w.setRow g new.toArray)) :
    if Region.wanted o (yielded ops a.tmps) = true then Oper.wp Tryd.prog o a w K Q else E := by
  subst hnew
  have hw : Region.wanted o (yielded ops a.tmps) = true := by simp [Region.wanted, hgd]
  rw [if_pos hw]
  have hrun := run_copy_row (P := Tryd.prog) w 72 72 o.type 74 g off dl dc ⟨g, 0, none⟩ sl sc cur 74 cs Tryd.underlying72 (by kernel_rfl) hg hn (fun j v hv => by
    rw [add_lit, Nat.zero_add, cell_of_row _ _ j _ _ _ hg]; exact hsrc j v hv) hfit h1
  unfold Oper.wp execOp
  simp only [ho, resolve, invoke, builtin, Sem.run_bind, Sem.run_pure, Result.andThen_ok, List.map_toArray, List.map_cons, List.map_nil, hd, hs, hrun]
  exact h

/-- copy of things of one cell, from one block into another. -/
theorem copy_at {w : World} {ops : Array Oper} {rest : List Oper} {a : Act} {Q : Exit → Act → World → Prop} {dst : Option Tmp} {ty : TypeId} {pos : String} {after : Array Edge} (d s : Tmp)
    (g off dl dc g2 sl sc : Nat) (cur : Array Value) (cs : List Value)
    (hd : a.eval (.tmp d) = .slice (some ⟨g, off, none⟩) dl dc) (hs : a.eval (.tmp s) = .slice (some ⟨g2, 0, none⟩) sl sc) (hg : w.heap[g]? = some (.cells cur 74 (0, 0))) (hn : cs.length = Nat.min sl dl)
    (hsrc : ∀ (j : Nat) v, cs[j]? = some v → w.cell? ⟨g2, j, none⟩ = some v) (hfit : off + cs.length ≤ cur.size) (h1 : ∀ v ∈ cs, v.oneCell' = true) (new : List Value) (hnew : new = cur.toList.take off ++ cs ++ cur.toList.drop (off + cs.length))
    (h : wpList Tryd.prog ops Q rest (a.put dst (.int .i64 (cs.length : Int))) (w.setRow g new.toArray)) :
    wpList Tryd.prog ops Q (⟨dst, .call { callee := .builtin .copy, args := #[.tmp d, .tmp s], argTypes := #[72, 72] }, ty, pos, after, none⟩ :: rest) a w := by
  subst hnew
  refine wpList_plain rfl fun K hK' => ?_
  have hrun := run_copy_row (P := Tryd.prog) w 72 72 ty 74 g off dl dc ⟨g2, 0, none⟩ sl sc cur 74 cs Tryd.underlying72 (by kernel_rfl) hg hn (fun j v hv => by
    rw [add_lit, Nat.zero_add]; exact hsrc j v hv) hfit h1
  unfold Oper.wp execOp
  simp only [resolve, invoke, builtin, Sem.run_bind, Sem.run_pure, Result.andThen_ok, List.map_toArray, List.map_cons, List.map_nil, hd, hs, hrun]
  exact hK' _ _ h

def rep (q k n : Nat) : List Value := List.replicate k (Ptr q) ++ List.replicate (n - k) (.pointer none)
theorem rep_len (q k n : Nat) (h : k ≤ n) : (rep q k n).length = n := by simp [rep]; omega
theorem rep_get (q k n j : Nat) (h : k ≤ n) : (rep q k n)[j]? = if j < k then some (Ptr q) else if j < n then some (.pointer none) else none := by
  unfold rep
  rw [List.getElem?_append]
  simp only [List.length_replicate, List.getElem?_replicate]
  by_cases h1 : j < k
  · simp [h1]
  · by_cases h2 : j < n
    · simp [h1, h2, show j - k < n - k by omega]
    · simp [h1, h2, show ¬ j - k < n - k by omega]
theorem rep_next (q k n c : Nat) (h : k ≤ n) (hc : k + c ≤ n) : (rep q k n).take k ++ List.replicate c (Ptr q) ++ (rep q k n).drop (k + c) = rep q (k + c) n := by
  apply List.ext_getElem?
  intro j
  rw [rep_get _ _ _ _ hc, List.append_assoc, List.getElem?_append, List.getElem?_append, List.getElem?_take, List.getElem?_drop, List.length_take, rep_len _ _ _ h, List.length_replicate, List.getElem?_replicate, rep_get _ _ _ _ h, rep_get _ _ _ _ h]
  rw [show min k n = k by omega]
  by_cases h1 : j < k
  · simp [h1, show j < k + c by omega]
  · by_cases h2 : j < k + c
    · simp [h1, h2, show j - k < c by omega]
    · simp [h1, h2, show ¬ j - k < c by omega, show k + c + (j - k - c) = j by omega]

theorem info55 : (Tryd.prog.info? 74).map (fun i => (i.zero, i.size, i.bytes)) = some (some (.pointer none), 1, 8) := by kernel_rfl

set_option maxRecDepth 1000000 in
set_option maxHeartbeats 1000000 in
/-- Repeat of a slice of one thing. -/
theorem repeat_any (q : Nat) (n : Nat) (h1 : 1 ≤ n) (h2 : n ≤ 256) (w : World) (g : Nat) (hg : w.heap[g]? = some (.cells #[Ptr q] 74 (0, 0))) :
    Calls Tryd.prog 34 #[.slice (some ⟨g, 0, none⟩) 1 1, .int .i64 (n : Int)] w fun e w' => e = .returned (.slice (some ⟨w.heap.size, 0, none⟩) n n) ∧ w'.heap[w.heap.size]? = some (.cells (rep q n n).toArray 74 (0, 0)) ∧ w.grownBy w' none := by
  obtain ⟨i0, hi, hz0, hz1, hz2⟩ := info_parts info55
  have HM := Lib.hid (mul_any n h2 w)
  have hcell : w.cell? ⟨g, 0, none⟩ = some (Ptr q) := by simp [World.cell?, hg]
  have HG := Lib.hid hg
  have hgl : g < w.heap.size := (Array.getElem?_eq_some_iff.1 hg).1
  have hr0 : rep q 0 n = List.replicate n (.pointer none) := by simp [rep]
  have hz : (rep q 0 n).length = n := rep_len q 0 n (Nat.zero_le _)
  have HR0 := Lib.hid hr0
  have HZ := Lib.hid hz
  clear hg hr0 hz
  go_enter Tryd.func34, Tryd.ntmps34
  go_wp2_with (first
    | (go_at_call 45; ((with_reducible refine HM.out.mono ?_); rintro e w' ⟨rfl, rfl⟩))
    | ((with_reducible refine make_at 72 74 i0 (.pointer none) 29 29 n Tryd.underlying72 hi hz0 hz1 ?_ ?_ ?_ ?_ ?_ (rep q 0 n) ?_ ?_); (rfl); (rfl); (rfl); (rw [hz2]; omega); (omega); (exact HR0.out))
    | ((with_reducible refine copy_at 31 32 w.heap.size 0 n n g 1 1 (rep q 0 n).toArray [Ptr q] ?_ ?_ ?_ ?_ ?_ ?_ ?_ (rep q 1 n) ?_ ?_); (rfl); (rfl); (exact heap_alloc_new _ _); (show (1 : Nat) = min 1 n; omega); (intro j v hv; cases j with | zero => (simp at hv; subst hv; rw [World.cell?_alloc_lt _ _ _ hgl]; exact hcell) | succ j => simp at hv); (simp [HZ.out]; omega); (intro v hv; simp at hv; subst hv; rfl); (exact (rep_next q 0 n 1 (Nat.zero_le _) (by omega)).symm); (rw [World.setRow_alloc_new])))
  go_loopw [8] (fun i wr => ∃ k : Nat, k ≤ n ∧ 1 ≤ k ∧ i = .int .i64 (k : Int) ∧ wr.heap[w.heap.size]? = some (.cells (rep q k n).toArray 74 (0, 0)) ∧ w.grownBy wr none) (fun i _ => n - (intOf i).toNat)
  case atStart => exact ⟨1, h1, Nat.le_refl _, rfl, heap_alloc_new _ _, World.grownBy_alloc _ _ none⟩
  case round =>
    obtain ⟨k, hk, hk1, rfl, hblk, hgr⟩ := hrel
    by_cases hlt : k < n
    · have HB := Lib.hid hblk
      have HGR := Lib.hid hgr
      have hnk : ¬ n = k := by omega
      have hc : ∃ c, c = min k (n - k) ∧ k + c ≤ n ∧ 1 ≤ c := ⟨_, rfl, by omega, by omega⟩
      obtain ⟨c, hc1, hc2, hc3⟩ := hc
      have HC := Lib.hid hc1
      have hwr : IntKind.i64.wrap ((k : Int) + (c : Int)) = (k : Int) + (c : Int) := by simp [IntKind.wrap, IntKind.bits, IntKind.signed]; omega
      clear hblk hgr hc1
      go_wp2_with fail
      go_region_law (refine step_copy rfl (.tmp 41) (.tmp 44) rfl w.heap.size k (n - k) (n - k) k n (rep q k n).toArray (List.replicate c (Ptr q)) (by simp [Act.eval, Act.put]) (by simp [Act.eval, Act.put]) HB.out (by rw [List.length_replicate]; exact HC.out) (by intro j v hv; rw [List.getElem?_replicate] at hv; split at hv <;> cases hv; rw [List.getElem?_toArray, rep_get _ _ _ _ hk, if_pos (by have := HC.out; omega)]) (by simp [rep_len _ _ _ hk]; exact hc2) (by intro v hv; rw [List.eq_of_mem_replicate hv]; rfl) (rep q (k + c) n) (by rw [List.length_replicate]; exact (rep_next q k n c hk hc2).symm) ?_)
      simp [Act.put]
      go_wp2_with fail
      go_roundw
      case rel => exact ⟨k + c, hc2, by omega, by simp, setRow_heap _ _ _ _ _ _ (show wr.drew.heap[w.heap.size]? = _ from HB.out), ⟨HGR.out.os, HGR.out.tape, HGR.out.output, by have := HGR.out.size; simp at this ⊢; omega, fun j hj hn => (setRow_other _ _ _ _ (by omega)).trans (HGR.out.block j hj hn)⟩⟩
      case measure => simp [intOf]; omega
    · have hkn : k = n := by omega
      subst hkn
      have HB := Lib.hid hblk
      have HGR := Lib.hid hgr
      clear hblk hgr
      go_wp2_with fail
      go_ret
      exact ⟨rfl, HB.out, HGR.out⟩
end Go.Proofs.YtfjjmlmkpdpdfaaDoor.pp
