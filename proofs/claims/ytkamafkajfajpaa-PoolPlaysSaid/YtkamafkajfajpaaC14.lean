/-
  The document's own pool: what it answers, and what it is behind a call: contracts. No condition but the bounds that each theorem names.
-/
import Derived.Test.YtkamafkajfajpaaC3
namespace Go.Proofs.Ytkamafkajfajpaa.pp
open Go Go.RowKit
set_option linter.unusedVariables false

abbrev RPool (w : World) (b : Nat) (v : Value) (room : Nat) (xs : List Int) : Prop := Pool w 41 3 b v room (xs.map I)

/-- A pool whose slice was made anew and stored: the slice lies in a new block. -/
theorem Pool.put2 {w w2 : World} {T e : TypeId} {b : Nat} {v v' : Value} {room : Nat} {xs ys : List Value} (hP : Pool w T e b v room xs) (ha : w.grownBy w2 none) (hsl : Sl w2 e v' ys) (hn : ∀ k, v'.ownBlock = some k → w.heap.size ≤ k) :
    (w2.cell? ⟨b, 0, none⟩ = some v ∧ w2.frozen? ⟨b, 0, none⟩ = false) ∧ Pool (w2.setCell ⟨b, 0, none⟩ v') T e b v' room ys ∧ Turn w (w2.setCell ⟨b, 0, none⟩ v') b v v' := by
  have hb := hP.lt
  have h2 : w2.heap[b]? = some (.cells #[v, .int .i64 (room : Int)] T (0, 0)) := (ha.block b hb (by simp)).trans hP.blk
  have hne : some b ≠ v'.ownBlock := fun e => by have := hn b e.symm; omega
  refine ⟨⟨by simp [World.cell?, h2], by simp [World.frozen?, h2]⟩, ⟨?_, hsl.of_block fun g hgk => Below.heap_setCell _ _ _ _ (fun e => hne (by rw [hgk, e])), hne⟩, ⟨ha.os, ha.tape, ha.output, Nat.le_trans ha.size (by simp [World.setCell]), fun k hk h1 h3 => (Below.heap_setCell _ _ _ k h1).trans (ha.block k hk (by simp)), .inr hn⟩⟩
  obtain ⟨hlt, hk⟩ := Array.getElem?_eq_some_iff.1 h2
  show (w2.heap.modify b _)[b]? = _
  rw [Array.getElem?_eq_getElem (by rw [Array.size_modify]; exact hlt), Array.getElem_modify_self, hk]
  rfl
/-- Two appends, the first one onto a slice that is new. -/
theorem twice_new {w0 w1 w2 w3 : World} {o : Obj} {u v2 v3 : Value} (h1 : w0.grownBy w1 none) (hu : ∀ k, u.ownBlock = some k → w0.heap.size ≤ k) (hg2 : w1.grownBy w2 u.ownBlock) (hn2 : Next w1 w2 u v2) (hg3 : (w2.alloc o).grownBy w3 v2.ownBlock) (hn3 : Next (w2.alloc o) w3 v2 v3) :
    w0.grownBy w3 none ∧ ∀ k, v3.ownBlock = some k → w0.heap.size ≤ k := by
  have hs1 := h1.size
  have hs2 := hg2.size
  have hs3 := hg3.size
  have h2 := hn2.ge hs1 hu
  simp at hs3
  refine ⟨⟨hg3.os.trans (hg2.os.trans h1.os), hg3.tape.trans (hg2.tape.trans h1.tape), hg3.output.trans (hg2.output.trans h1.output), by omega, fun k hk _ => ?_⟩, fun k hk => ?_⟩
  · refine (hg3.block k (by simp; omega) (fun e => by have := h2 k e.symm; omega)).trans ((Below.heap_alloc _ _ _ (by omega)).trans ((hg2.block k (by omega) (fun e => by have := hu k e.symm; omega)).trans (h1.block k hk (by simp))))
  · exact hn3.ge (B := w0.heap.size) (by simp; omega) h2 k hk
theorem twice_new' {w0 w1 w2 w3 : World} {u v2 v3 : Value} (h1 : w0.grownBy w1 none) (hu : ∀ k, u.ownBlock = some k → w0.heap.size ≤ k) (hg2 : w1.grownBy w2 u.ownBlock) (hn2 : Next w1 w2 u v2) (hg3 : w2.grownBy w3 v2.ownBlock) (hn3 : Next w2 w3 v2 v3) :
    w0.grownBy w3 none ∧ ∀ k, v3.ownBlock = some k → w0.heap.size ≤ k := by
  have hs1 := h1.size
  have hs2 := hg2.size
  have hs3 := hg3.size
  have h2 := hn2.ge hs1 hu
  refine ⟨⟨hg3.os.trans (hg2.os.trans h1.os), hg3.tape.trans (hg2.tape.trans h1.tape), hg3.output.trans (hg2.output.trans h1.output), by omega, fun k hk _ => ?_⟩, fun k hk => ?_⟩
  · exact (hg3.block k (by omega) (fun e => by have := h2 k e.symm; omega)).trans ((hg2.block k (by omega) (fun e => by have := hu k e.symm; omega)).trans (h1.block k hk (by simp)))
  · exact hn3.ge (B := w0.heap.size) (by omega) h2 k hk

theorem rnew_ok (room : Nat) (w : World) (h1 : 1 ≤ room) (h2 : room ≤ 65536) : Calls Try.prog 18 #[.int .i64 (room : Int)] w fun e w' => e = .returned (.tuple #[.pointer (some ⟨w.heap.size, 0, none⟩), .int .i64 0]) ∧ w' = w.alloc (.cells #[.slice none 0 0, .int .i64 (room : Int)] 41) := by
  go_enter Try.func18, Try.ntmps18
  go_wp2
  go_ret2
  exact ⟨rfl, rfl⟩
theorem rnew_err (room : Int) (w : World) (h : room < 1 ∨ 65536 < room) : Calls Try.prog 18 #[.int .i64 room] w fun e w' => e = .returned (.tuple #[.pointer none, .int .i64 2]) ∧ w = w' := by
  by_cases h0 : room < 1
  · clear h
    go_enter Try.func18, Try.ntmps18
    go_wp2
    go_ret2
    exact ⟨rfl, rfl⟩
  · have h1 : decide (room < 1) = false := by simp; omega
    have h3 : decide (65536 < room) = true := by simp; omega
    clear h h0
    go_enter Try.func18, Try.ntmps18
    go_wp2
    go_ret2
    exact ⟨rfl, rfl⟩

set_option maxHeartbeats 1000000 in
theorem rput_full (b : Nat) (v : Value) (room : Nat) (xs : List Int) (x : Int) (w : World) (hP : RPool w b v room xs) (hl : xs.length = room) :
    Calls Try.prog 19 #[.pointer (some ⟨b, 0, none⟩), .int .i64 x] w fun e w' => e = .returned (.int .i64 7) ∧ ∃ n, w' = w.drewN n := by
  obtain ⟨ad, cap, rfl⟩ := hP.sl.form
  have hc := hP.cell0
  have hc1 := hP.cell1
  rw [List.length_map, hl] at hc
  have hb : ((room : Int) == (room : Int)) = true := by simp
  clear hP hl
  go_enter Try.func19, Try.ntmps19
  go_wp2_with fail
  go_quiet (fail)
  go_wp2_with fail
  go_ret
  exact ⟨rfl, _, rfl⟩

set_option maxHeartbeats 2000000 in
theorem rput_ok (b : Nat) (v : Value) (room : Nat) (xs : List Int) (x : Int) (w : World) (hP : RPool w b v room xs) (hl : xs.length < room) (hr : room ≤ 65536) :
    Calls Try.prog 19 #[.pointer (some ⟨b, 0, none⟩), .int .i64 x] w fun e w' => e = .returned (.int .i64 0) ∧ ∃ v', RPool w' b v' room (xs ++ [x]) ∧ Turn w w' b v v' := by
  obtain ⟨i0, hi, hz0, hz1, hz2⟩ := info_parts Try.info3
  obtain ⟨ad, cap, hv⟩ := hP.sl.form
  rw [List.length_map] at hv
  obtain ⟨q, hq⟩ : ∃ q, q = xs.length := ⟨_, rfl⟩
  rw [← hq] at hv
  subst hv
  have hc := hP.cell0
  have hc1 := hP.cell1
  have h0 : ((q : Int) == (room : Int)) = false := by simp; omega
  have HP := Lib.hid hP
  have hlen : (xs.map I).length + 1 ≤ 65536 := by simp; omega
  have HQ := Lib.hid hlen
  have HX := Lib.hid (show (xs ++ [x]).map I = xs.map I ++ [I x] by simp)
  clear hP hl hr hlen hq
  go_enter Try.func19, Try.ntmps19
  go_wp2_with fail
  go_quiet (fail)
  obtain ⟨w0, hw0⟩ : ∃ w0, w0 = w.drewN nq := ⟨_, rfl⟩
  have hp0 : RPool w0 b (.slice ad q cap) room xs := by rw [hw0]; exact HP.out.drewN nq
  rw [← hw0]
  have HW := Lib.hid hw0
  have HP0 := Lib.hid hp0
  have hc2 := hp0.cell0
  have hb0 := hp0.lt
  have ha0 : w0.grownBy (w0.alloc (.cells #[] 3)) none := World.grownBy_alloc _ _ none
  clear hw0 hc hc1 hp0
  go_wp2_with (first
    | (at_builtin; refine wpList_append_sl rfl (.tmp 16) (.tmp 20) 39 39 rfl 3 i0 (.int .i64 0) 8 Try.underlying39 hi hz0 hz1 hz2 rfl (.slice (some ⟨w0.heap.size, 0, none⟩) 0 0) [] rfl (Sl.empty w0 3) (xs.map I).length (xs.map I) ((HP0.out.sl.of_block (fun g hg => Below.heap_alloc w0 (.cells #[] 3) _ (HP0.out.sl.lt g hg))).src Try.underlying39 (I_one xs)) (by have := HQ.out; unfold maxLen; simp at this ⊢; omega) (by have := HQ.out; simp at this ⊢; omega) ?_; intro v2 w2 hsl2 hgr2 hnx2; rw [List.nil_append] at hsl2)
    | (at_builtin; refine wpList_append_sl rfl (.tmp 21) (.tmp 23) 39 39 rfl 3 i0 (.int .i64 0) 8 Try.underlying39 hi hz0 hz1 hz2 rfl v2 (xs.map I) rfl (hsl2.of_block (fun g hg => Below.heap_alloc _ _ _ (hsl2.lt g hg))) 1 [I x] (src_one _ _ _ Try.underlying39 rfl) (by have := HQ.out; unfold maxLen; omega) (by have := HQ.out; omega) ?_; intro v3 w3 hsl3 hgr3 hnx3; obtain ⟨hg03, hv3⟩ := twice_new ha0 (fun k hk => by simp [Value.ownBlock] at hk; omega) hgr2 hnx2 hgr3 hnx3; obtain ⟨⟨hc3, hf3⟩, hP3, hT3⟩ := HP0.out.put2 hg03 hsl3 hv3; obtain ⟨ad', n', cap', rfl⟩ := hsl3.form2))
  go_ret
  rw [← HX.out] at hP3
  rw [HW.out] at hT3
  exact ⟨rfl, _, hP3, hT3.drewN⟩

/-- xs[k:], one step of a list of operations. -/
theorem wpList_slice_from {P : Program} {ops : Array Oper} {rest : List Oper} {o : Oper} {a : Act} {Q : Exit → Act → World → Prop} {w : World} (hgd : o.guard = none) (t e : TypeId) (s i : Operand) (ho : o.op = .slice t s (some i) none none) (hu : P.underlying t = some (.slice e)) (e1 : TypeInfo) (he : P.info? e = some e1) (hsz : e1.size = 1)
    (g off n cap k : Nat) (A : Addr) (hs : a.eval s = .slice (some ⟨g, off, none⟩) n cap) (z : Int) (hz : z = (k : Int)) (hi : a.eval i = .int .i64 z) (hk : k ≤ n) (hn : n ≤ cap)
    (hA : (if cap = k then (some ⟨g, off, none⟩ : Option Addr) else some ⟨g, off + k, none⟩) = some A) (h : wpList P ops Q rest (a.put o.dst (.slice (some A) (n - k) (cap - k))) w) : wpList P ops Q (o :: rest) a w := by
  subst hz
  refine wpList_plain hgd fun K hK => ?_
  unfold Oper.wp execOp
  have h0 : (0 : Int) ≤ (k : Int) ∧ (k : Int) ≤ (n : Int) := by omega
  have h1 : ((k : Int)).toNat = k := by omega
  have hu2 := run_underlying (w := w) hu
  have hA' := hA
  have key : (Instr.sliceAt t (.slice (some ⟨g, off, none⟩) n cap) (some (.int .i64 (k : Int))) none none).run P w = .ok (.slice (some A) (n - k) (cap - k)) w := by
    rw [← hA]
    by_cases hc : cap = k
    · simp [go_sem, Instr.sliceAt, hu2, Instr.slice, Instr.sliceBounds, Instr.sliceBound, asIntOf, sizeOf, typeInfo, he, h1, hk, hc]
    · simp [go_sem, Instr.sliceAt, hu2, Instr.slice, Instr.sliceBounds, Instr.sliceBound, asIntOf, sizeOf, typeInfo, he, hsz, h1, hk, hc, add_lit]
  simp [ho, hs, hi, key]
  exact hK _ _ h

theorem rtake_out (b : Nat) (v : Value) (room : Nat) (xs : List Int) (i : Int) (w : World) (hP : RPool w b v room xs) (h : i < 0 ∨ (xs.length : Int) ≤ i) : Calls Try.prog 20 #[.pointer (some ⟨b, 0, none⟩), .int .i64 i] w fun e w' => e = .returned (.tuple #[.int .i64 0, .int .i64 5]) ∧ w = w' := by
  obtain ⟨ad, cap, rfl⟩ := hP.sl.form
  have hc := hP.cell0
  rw [List.length_map] at hc
  clear hP
  obtain ⟨q, hq⟩ : ∃ q, q = xs.length := ⟨_, rfl⟩
  rw [← hq] at hc h
  clear hq
  by_cases h0 : i < 0
  · clear h
    go_enter Try.func20, Try.ntmps20
    go_wp2
    go_ret2
    exact ⟨rfl, rfl⟩
  · have h1 : decide (i < 0) = false := by simp; omega
    have h2 : decide ((q : Int) ≤ i) = true := by simp; omega
    clear h h0
    go_enter Try.func20, Try.ntmps20
    go_wp2
    go_ret2
    exact ⟨rfl, rfl⟩

/-- The slice of the things ahead of place i. -/
theorem head_src {P : Program} {t e e' : TypeId} {w : World} {g off cap : Nat} {xs : List Value} (hsl : Sl w e (.slice (some ⟨g, off, none⟩) xs.length cap) xs) (i : Nat) (hi : i ≤ xs.length) (hk : P.underlying t = some (.slice e')) (h1 : ∀ u ∈ xs, u.oneCell' = true) : Src P 1 t (.slice (some ⟨g, off, none⟩) i cap) i (xs.take i) w := by
  rcases hsl with ⟨h, _⟩ | ⟨g', off', cap', cur, h, hb, h2, h3, h4, h5⟩
  · cases h
  · cases h
    have hd : (xs.take i).length = i := by rw [List.length_take]; omega
    refine Src.ofSlice w hk _ _ _ _ (by rw [hd, Nat.mul_one]) (fun j u hu => ?_) (fun u hu => h1 u (List.mem_of_mem_take hu))
    rw [List.getElem?_take] at hu
    split at hu
    · rw [add_lit]; simp [World.cell?, hb, h5 j u hu]
    · cases hu

set_option maxHeartbeats 2000000 in
theorem rtake_in (b : Nat) (v : Value) (room : Nat) (xs : List Int) (k : Nat) (x : Int) (w : World) (hP : RPool w b v room xs) (hx : xs[k]? = some x) (hr : xs.length ≤ 65536) :
    Calls Try.prog 20 #[.pointer (some ⟨b, 0, none⟩), .int .i64 (k : Int)] w fun e w' => e = .returned (.tuple #[.int .i64 x, .int .i64 0]) ∧ ∃ v', RPool w' b v' room (xs.eraseIdx k) ∧ Turn w w' b v v' := by
  obtain ⟨i0, hi, hz0, hz1, hz2⟩ := info_parts Try.info3
  have hl : k < xs.length := (List.getElem?_eq_some_iff.1 hx).1
  obtain ⟨g0, off0, cap0, hv0, hcell⟩ := hP.sl.cell k (I x) (by simp [hx])
  subst hv0
  have hsl := hP.sl
  have hP0 := hP
  have HA : Hid (∀ w', w.grownBy w' none → ∃ A, (if cap0 = k + 1 then (some ⟨g0, off0, none⟩ : Option Addr) else some ⟨g0, off0 + (k + 1), none⟩) = some A ∧ Src Try.prog 1 39 (.slice (some A) (xs.length - (k + 1)) (cap0 - (k + 1))) (xs.length - (k + 1)) ((xs.map I).drop (k + 1)) w') := Lib.hid fun w' hg => by
    obtain ⟨A, h1, h2, _, _⟩ := tail_src (P := Try.prog) (w := w') (hsl.of_block fun g hgk => hg.block g (hsl.lt g hgk) (by simp)) (k + 1) (by simp; omega) Try.underlying39 (I_one xs)
    rw [List.length_map] at h2
    exact ⟨A, h1, h2⟩
  have hhd := head_src (P := Try.prog) hsl k (by simp; omega) Try.underlying39 (I_one xs)
  have hc := hP.cell0
  have hcap : xs.length ≤ cap0 := by
    rcases hsl with ⟨h, _⟩ | ⟨g', off', cap', cur, h, hb, h2, h3, h4, h5⟩
    · cases h
    · cases h; simpa using h2
  have hcl : cap0 ≤ 9223372036854775807 := by
    rcases hsl with ⟨h, _⟩ | ⟨g', off', cap', cur, h, hb, h2, h3, h4, h5⟩
    · cases h
    · cases h; unfold maxLen at h3; omega
  rw [List.length_map] at hc
  unfold I at hcell
  have HP := Lib.hid hP
  have HH := Lib.hid hhd
  have HE := Lib.hid (erase_map xs k)
  have HK1 : Hid (((xs.map I).take k).length + (xs.length - (k + 1)) ≤ 65536 ∧ k ≤ 65536) := Lib.hid (by simp; omega)
  have hw : IntKind.i64.wrap ((k : Int) + 1) = ((k : Int) + 1) := by simp [IntKind.wrap, IntKind.bits, IntKind.signed]; omega
  have ht : ((k : Int) + 1).toNat = k + 1 := by omega
  have hk1 : 0 ≤ (k : Int) + 1 := by omega
  have hk2 : (k : Int) + 1 ≤ (xs.length : Int) := by omega
  have hkc : k ≤ cap0 := by omega
  have hkc1 : k + 1 ≤ cap0 := by omega
  have hkl1 : k + 1 ≤ xs.length := by omega
  obtain ⟨q, hq⟩ : ∃ q, q = xs.length := ⟨_, rfl⟩
  rw [← hq] at hc hl hk2 hcap hkl1 HA
  have HAs := Lib.hid HA.out
  have HK2 : Hid (((xs.map I).take k).length + (q - (k + 1)) ≤ 65536) := Lib.hid (by rw [hq]; exact HK1.out.1)
  clear hsl hP hP0 hhd hx hr hq HA
  obtain ⟨A, hA⟩ : ∃ A, (if cap0 = k + 1 then (some ⟨g0, off0, none⟩ : Option Addr) else some ⟨g0, off0 + (k + 1), none⟩) = some A := ⟨_, (HAs.out w ⟨rfl, rfl, rfl, Nat.le_refl _, fun _ _ _ => rfl⟩).choose_spec.1⟩
  have HAA := Lib.hid hA
  have HB : Hid (∀ w', w.grownBy w' none → Src Try.prog 1 39 (.slice (some A) (q - (k + 1)) (cap0 - (k + 1))) (q - (k + 1)) ((xs.map I).drop (k + 1)) w') := Lib.hid fun w' hg => by
    obtain ⟨A2, h1, h2⟩ := HAs.out w' hg
    obtain rfl : A2 = A := by rw [h1] at hA; exact Option.some.inj hA
    exact h2
  have HKQ : Hid (k + 1 ≤ q ∧ q ≤ cap0) := Lib.hid ⟨hkl1, hcap⟩
  clear hA
  go_enter Try.func20, Try.ntmps20
  go_wp2_with (first
    | (at_builtin; refine wpList_append_sl rfl (.tmp 26) (.tmp 32) 39 39 rfl 3 i0 (.int .i64 0) 8 Try.underlying39 hi hz0 hz1 hz2 rfl (.slice none 0 0) [] rfl (Sl.nil w 3) k ((xs.map I).take k) HH.out (by have := HK1.out; unfold maxLen; simp; omega) (by have := HK1.out; simp; omega) ?_; intro v2 w2 hsl2 hgr2 hnx2; rw [List.nil_append] at hsl2; have hg2 : w.grownBy w2 none := hgr2; have hc2 := hg2.cell hc (by simp); have hs2 := Lib.hid (HB.out w2 hg2))
    | (refine wpList_slice_from rfl 39 3 (.tmp 39) (.tmp 41) rfl Try.underlying39 i0 hi hz1 g0 off0 q cap0 (k + 1) A rfl _ (by omega) rfl HKQ.out.1 HKQ.out.2 HAA.out ?_)
    | (at_builtin; refine wpList_append_sl rfl (.tmp 35) (.tmp 42) 39 39 rfl 3 i0 (.int .i64 0) 8 Try.underlying39 hi hz0 hz1 hz2 rfl v2 ((xs.map I).take k) rfl hsl2 _ _ hs2.out (by have := HK2.out; unfold maxLen; omega) (by have := HK2.out; omega) ?_; intro v3 w3 hsl3 hgr3 hnx3; obtain ⟨hg03, hv3⟩ := twice_new' (w0 := w) (w1 := w) (u := .slice none 0 0) ⟨rfl, rfl, rfl, Nat.le_refl _, fun _ _ _ => rfl⟩ (fun k hk => by simp [Value.ownBlock] at hk) hgr2 hnx2 hgr3 hnx3; obtain ⟨⟨hc3, hf3⟩, hP3, hT3⟩ := HP.out.put2 hg03 hsl3 hv3; obtain ⟨ad', n', cap', rfl⟩ := hsl3.form2))
  go_ret2
  rw [HE.out] at hP3
  exact ⟨rfl, _, hP3, hT3⟩
end Go.Proofs.Ytkamafkajfajpaa.pp
