/-
  The iterator that goes over who must be asked, rising: contract. Conditions: those that each theorem names (an entry's, a kind's and a core's variables; the library's table lies in its variable).
-/
import Derived.Test.YtplebmafdfciaaaDoorEnF
import Derived.Test.YtplebmafdfciaaaDoorMaC3
import Derived.Test.YtplebmafdfciaaaDoorRf
import Derived.TacticsInMore
namespace Go.Proofs.YtplebmafdfciaaaDoor.en
open Go Go.RowKit Go.Shelf
open Go.Proofs.YtplebmafdfciaaaDoor.mm (wi wi_lt ones ones_len Tab all_in all_stops)
open Go.Proofs.YtplebmafdfciaaaDoor.tt (Holds SeqR rangeR keeps_up)
set_option linter.unusedVariables false
theorem wide_fn (f : FuncId) : Fence.wide.fn f = True := rfl
attribute [local simp] wide_fn
attribute [local go_sem] Oper.semAt_some

theorem round_in (l' m' : Nat) {m : Nat} {P : Program} {l : Nat} {f : FuncId} {tmps : Array Value} {assign body : Code} {w : World} {R : Ending → World → Prop}
    (h : RoundIn Fence.wide m P l f tmps assign body w R) : RoundIn (Fence.wide.inRound l') m' P l f tmps assign body w R := ⟨h.1, fun c cs _ => h.2 c cs (fun d hd => by cases hd)⟩
theorem ownFrom_up {β : Type} {B B' : Nat} {I : β → World → Prop} (h : OwnFrom B I) (hB : B ≤ B') : OwnFrom B' I := fun s W W' row hs hg hr => h s W W' row hs hg (fun r e => ⟨Nat.le_trans hB (hr r e).1, (hr r e).2⟩)
theorem ownFrom_map {β γ : Type} {B : Nat} {I : β → World → Prop} (f : γ → β) (h : OwnFrom B I) : OwnFrom B (fun s W => I (f s) W) := fun s W W' row hs hg hr => h (f s) W W' row hs hg hr
theorem boxed_from {B : Nat} {β : Type} (k : Nat) (t : TypeId) (f : β → Value) : OwnFrom B (fun s W => Boxed W k t (f s)) := fun s A B' row hs hg hr => hs.kept hg fun e => by
  obtain ⟨hb, o, ho, hc⟩ := hr k e.symm
  rw [show A.heap[k]? = _ from hs] at ho; cases ho; cases hc

/-- All of a row but x. -/
def sieve (x : Int) (l : List Nat) : List Nat := l.filter (fun j : Nat => decide ((j : Int) ≠ x))
theorem sieve_in {x : Int} (l : List Nat) {j : Nat} (h : (j : Int) ≠ x) : sieve x (l ++ [j]) = sieve x l ++ [j] := by simp [sieve, h]
theorem sieve_out {x : Int} (l : List Nat) {j : Nat} (h : (j : Int) = x) : sieve x (l ++ [j]) = sieve x l := by simp [sieve, h]
theorem sieve_pre {x : Int} {l m : List Nat} (h : l <+: m) : sieve x l <+: sieve x m := h.filter _
theorem sieve_len (x : Int) (l : List Nat) : (sieve x l).length ≤ l.length := List.length_filter_le _ _
/-- Who must be asked. -/
def want (o : Int) (s : Nat) (k x : Int) : List Nat := if k = 1 ∧ o = -1 then [] else sieve x (ones (wi s o))
def encI (j : Nat) : Array Value := #[.int .i64 (j : Int)]
/-- What a round keeps: what lay ahead of n₀, and the variable x. -/
def KpX (n₀ xb : Nat) (A B : World) : Prop := Below n₀ A B ∧ B.heap[xb]? = A.heap[xb]?
theorem KpX.trans {n₀ xb : Nat} {A B C : World} (h : KpX n₀ xb A B) (k : KpX n₀ xb B C) : KpX n₀ xb A C := ⟨h.1.trans k.1, k.2.trans h.2⟩
theorem KpX.refl {n₀ xb : Nat} (A : World) : KpX n₀ xb A A := ⟨Below.refl _ _, rfl⟩
theorem KpX.put {n₀ xb : Nat} {w : World} (hn : n₀ ≤ w.heap.size) (hx : xb < w.heap.size) (W : World) (l : Nat) (o o' : Obj) (hl : w.heap.size ≤ l) (h : W.heap[l]? = some o) (h1 : o.isCells = false) (h2 : o.isWalk = false) : KpX n₀ xb W (W.putObj l o') :=
  ⟨belowK_b hn W l o o' hl h h1 h2, World.putObj_heap_other (by omega)⟩
theorem seqK_mono {α : Type} {F : Fence} {n : Nat} {P : Program} {g : Nat} {lb : Array Value} {encs : α → Array Value} {Kp Kp' : World → World → Prop} {S Sp : List α → Prop} {N : Nat} {w : World}
    (h : SeqStopsK F n P g lb encs Kp S Sp N w) (hk : ∀ A B, Kp' A B → Kp A B) : SeqStopsK F n P g lb encs Kp' S Sp N w := fun l J Jx W hW hJ hJx hY h0 =>
  h l J Jx W hW hJ hJx (fun pre x W1 hj hl => by
    obtain ⟨fn, tmps, assign, body, hy, hR⟩ := hY pre x W1 hj hl
    exact ⟨fn, tmps, assign, body, hy, hR.mono fun e W' h => h.imp (fun h => ⟨h.1, h.2.1, hk _ _ h.2.2⟩) id⟩) h0

set_option maxRecDepth 1000000 in
set_option maxHeartbeats 4000000 in
theorem must1_none (n : Nat) (hn : 4 ≤ n) (l kb eb xb : Nat) (s : Nat) (x : Int) (J Jx : List Nat → World → Prop) (W : World) (hA : OwnFrom W.heap.size J)
    (hK : W.cell? ⟨kb, 0, none⟩ = some (.int .u8 1)) (hE : W.heap[eb]? = some (.cells #[.int .i64 (-1), .int .u32 (s : Int)] 25 (0, 0))) (h0 : J [] W) :
    CallsIn Fence.wide n Tryd.prog 33 #[.func (.yield l) #[] #[], .pointer (some ⟨kb, 0, none⟩), .pointer (some ⟨eb, 0, none⟩), .pointer (some ⟨xb, 0, none⟩)] W fun e W' => (∃ v, e = .returned v) ∧ J [] W' := by
  have hg1 : W.grownBy (W.alloc (.cells #[.func (.yield l) #[] #[]] 49)) none := grown_alloc (grown_refl _ _) _
  have hK1 := hg1.cell hK (by simp)
  obtain ⟨c0, c1⟩ := cells2 (row_grown hE hg1)
  have H0 := Lib.hid (hA.alloc (.cells #[.func (.yield l) #[] #[]] 49) h0)
  clear hA hK hE h0 hg1
  refine callsIn_of_wp_marks Tryd.func33 rfl trivial ?_ rfl
  simp only [Tryd.ntmps33, List.size_toArray, List.length_cons, List.length_nil, Nat.reduceAdd, Nat.reduceSub, Array.replicate_succ, Array.replicate_zero, List.push_toArray, List.append_toArray, List.nil_append, List.cons_append]
  gi_wp2
  exact ⟨_, results_none rfl _ _ _, ⟨_, rfl⟩, H0.out⟩

set_option maxRecDepth 1000000 in
set_option maxHeartbeats 4000000 in
theorem must1_k (n : Nat) (hn : 4 ≤ n) (l kb eb xb n₀ : Nat) (o : Int) (s : Nat) (k x : Int) (hs : s < 4294967296) (hno : k ≠ 1) (J Jx : List Nat → World → Prop) (W : World) (hA : OwnFrom W.heap.size J) (hAx : OwnFrom W.heap.size Jx)
    (hY : ∀ (pre : List Nat) (j : Nat) W1, J pre W1 → W.heap.size + 1 ≤ W1.heap.size → pre.length < (ones (wi s o)).length → YieldAt Fence.wide (n - 1) Tryd.prog l (encI j) W1 fun e W' =>
      Holds W.heap.size 1 W1 W' ∧ ((e = .returned (.bool true) ∧ J (pre ++ [j]) W' ∧ KpX n₀ xb W1 W') ∨ (e = .returned (.bool false) ∧ Jx (pre ++ [j]) W')))
    (hn0 : 0 < n₀) (hnW : n₀ ≤ W.heap.size) (hK : W.cell? ⟨kb, 0, none⟩ = some (.int .u8 k)) (hE : W.heap[eb]? = some (.cells #[.int .i64 o, .int .u32 (s : Int)] 25 (0, 0))) (hX : Boxed W xb 3 (.int .i64 x)) (hT : Tab W) (h0 : J [] W) :
    CallsIn Fence.wide n Tryd.prog 33 #[.func (.yield l) #[] #[], .pointer (some ⟨kb, 0, none⟩), .pointer (some ⟨eb, 0, none⟩), .pointer (some ⟨xb, 0, none⟩)] W fun e W' => (∃ v, e = .returned v) ∧
      ((∃ ys, ys = sieve x (ones (wi s o)) ∧ J ys W') ∨ (∃ pre, pre <+: sieve x (ones (wi s o)) ∧ Jx pre W')) := by
  have hg1 : W.grownBy (W.alloc (.cells #[.func (.yield l) #[] #[]] 49)) none := grown_alloc (grown_refl _ _) _
  have b1 := Boxed.new W 49 (.func (.yield l) #[] #[])
  have hn1 : 1 ≤ n := by omega
  have hn2 : 1 ≤ n - 1 := by omega
  have hn3 : 1 ≤ n - 1 - 1 := by omega
  have hK1 := hg1.cell hK (by simp)
  have HE1 := Lib.hid (row_grown hE hg1)
  obtain ⟨c0, c1⟩ := cells2 HE1.out
  have HXB := Lib.hid hX
  have HT0 := Lib.hid hT
  have HTL := Lib.hid hT.lt
  have HN0 := Lib.hid hn0
  have HNW := Lib.hid hnW
  have HKN : Hid (∀ w, _) := Lib.hid fun w => known_any o s w hs
  have hml := wi_lt s o hs
  have HML := Lib.hid hml
  have HG1 := Lib.hid hg1
  have HYY := Lib.hid hY
  have HA := Lib.hid hA
  have HAX := Lib.hid hAx
  have H0 := Lib.hid h0
  generalize wi s o = m at HKN HML HYY hml ⊢
  have ek : (k == 1) = false := by simpa using hno
  clear hY hA hAx h0 hg1 hK hE hX hT hs hml hn0 hnW hno
  refine callsIn_of_wp_marks Tryd.func33 rfl trivial ?_ rfl
  simp only [Tryd.ntmps33, List.size_toArray, List.length_cons, List.length_nil, Nat.reduceAdd, Nat.reduceSub, Array.replicate_succ, Array.replicate_zero, List.push_toArray, List.append_toArray, List.nil_append, List.cons_append]
  gi_wp2_with (first
    | (gi_at_call 24; ((with_reducible refine (callsIn_wide.2 (HKN.out _)).mono ?_); rintro e w5 ⟨rfl, hg5⟩; have HG5 := Lib.hid hg5; clear hg5))
    | (gi_at_call 34; refine (all_in _ _ _).mono ?_; rintro e w' ⟨rfl, rfl⟩))
  obtain ⟨W0, hW0⟩ : ∃ W0, W0 = w5.alloc (.cells #[.int .u32 (m : Int)] 23) := ⟨_, rfl⟩
  have hs5 := HG5.out.size
  simp only [World.size_alloc] at hs5
  have hgW : W.grownBy W0 none := by rw [hW0]; exact grown_alloc (grown_trans HG1.out HG5.out) _
  have hs0 : W0.heap.size = w5.heap.size + 1 := by rw [hW0]; simp
  have b2 : Boxed W0 w5.heap.size 23 (.int .u32 (m : Int)) := by rw [hW0]; exact Boxed.new _ _ _
  have b1' : Boxed W0 W.heap.size 49 (.func (.yield l) #[] #[]) := by rw [hW0]; exact (b1.kept HG5.out (by simp)).alloc _
  have hx0 := HXB.out.kept hgW (by simp)
  have hxl := HXB.out.lt
  have hT0 : Tab W0 := HT0.out.below (below_of hgW) HTL.out
  have hJ0 : J [] W0 := HA.out [] W W0 none H0.out hgW (fun r e => by cases e)
  have hnw := HNW.out
  have hn0 := HN0.out
  rw [← hW0]
  clear hW0 HG5 HE1 c0 c1 hK1 b1
  apply wpIn_rangeFunc_ownH rfl hn1 (gf := 37) (lb := #[.pointer (some ⟨w5.heap.size, 0, none⟩)]) rfl trivial (enters_of Tryd.func37 (by kernel_rfl) rfl)
    (Kp := KpX n₀ xb) (seqK_mono (all_stops (n - 1) hn2 w5.heap.size n₀ m HML.out W0 (by omega) hn0 b2.cell hT0) (fun _ _ h => h.1)) (fun {A B C} h k => KpX.trans h k) (KpX.put (by omega) (by omega)) (Below.refl _ _) (fun _ => rfl)
    (fun pre X => (Boxed X W.heap.size 49 (.func (.yield l) #[] #[]) ∧ Boxed X xb 3 (.int .i64 x)) ∧ J (sieve x pre) X)
    (fun cc ys X => cc = .ret ∧ Jx (sieve x ys) X)
    (OwnFrom.and (OwnFrom.and (boxed_from _ _ (fun _ => _)) (boxed_from _ _ (fun _ => _))) (ownFrom_map _ (ownFrom_up HA.out (by omega))))
    (fun c' => OwnFrom.and (fun s A B row hs hg hr => hs) (ownFrom_map _ (ownFrom_up HAX.out (by omega))))
    ⟨⟨b1', hx0⟩, hJ0⟩
    (fun j a' X => a' = { tmps := #[.func (.yield l) #[] #[], .pointer (some ⟨kb, 0, none⟩), .pointer (some ⟨eb, 0, none⟩), .pointer (some ⟨xb, 0, none⟩), .pointer (some ⟨W.heap.size, 0, none⟩), .int .i64 (j : Int), .int .u8 k, .bool false, .bool false, undef, undef, undef, .bool false, .agg #[.int .i64 o, .int .u32 (s : Int)], .int .u32 (m : Int), .func (.func 37) #[] #[.pointer (some ⟨w5.heap.size, 0, none⟩)], .int .i64 (j : Int), undef, undef, undef, undef, undef, undef, undef, undef, undef], defers := [] })
  case hAx =>
    rintro x a' s A B row h hg hr
    exact h
  case hassign =>
    rintro l' pre j X K ⟨⟨hb, hxb⟩, hJ⟩ hK
    have HK := Lib.hid hK
    have HJ := Lib.hid hJ
    have HB := Lib.hid hb
    have HXX := Lib.hid hxb
    clear hK hJ hb hxb
    gi_wp2
    exact HK.out _ _ (KeepsFrom.refl _ _) (KpX.refl _) ⟨⟨HB.out, HXX.out⟩, HJ.out⟩ rfl
  case hbody =>
    rintro l' pre j a' X hl' _ ⟨⟨hb, hxb⟩, hJ⟩ rfl hlt
    have hxc := hxb.cell
    have hbc := hb.cell
    have HB := Lib.hid hb
    have HXX := Lib.hid hxb
    by_cases hj : (j : Int) = x
    · have ej : ((j : Int) != x) = false := by simpa using hj
      have HJ := Lib.hid hJ
      have HS := Lib.hid (sieve_out pre hj)
      clear hJ hb hxb hlt hl' hj
      gi_wp2
      exact ⟨KeepsFrom.refl _ _, KpX.refl _, ⟨HB.out, HXX.out⟩, by rw [HS.out]; exact HJ.out⟩
    · have ej : ((j : Int) != x) = true := by simpa using hj
      obtain ⟨fn, tmps, assign, body, hy, hR⟩ := HYY.out (sieve x pre) j X hJ hb.lt (Nat.lt_of_le_of_lt (sieve_len x pre) hlt)
      have HS := Lib.hid (sieve_in pre hj)
      unfold encI at hy
      clear hJ hb hxb hlt hl' hj
      gi_wp2
      refine (round_in _ _ hR).mono ?_
      rintro e X3 ⟨hkf, (⟨rfl, hJ3, hk3⟩ | ⟨rfl, hJx3⟩)⟩
      · have hb3 : Boxed X3 W.heap.size 49 (.func (.yield l) #[] #[]) := (hkf.same _ (Nat.le_refl _) (by omega)).trans HB.out
        have hx3 : Boxed X3 xb 3 (.int .i64 x) := hk3.2.trans HXX.out
        gi_wp2
        exact ⟨keeps_up hkf.keeps (by omega), hk3, ⟨hb3, hx3⟩, by rw [HS.out]; exact hJ3⟩
      · gi_wp2
        exact ⟨keeps_up hkf.keeps (by omega), rfl, by rw [HS.out]; exact hJx3⟩
  case hdone =>
    rintro D ys X hD rfl ⟨⟨hb, hxb⟩, hJ⟩ hK
    gi_wp2
    refine ⟨by simp, .inl ⟨_, _, rfl, run_takeDeferred hK, ?_⟩⟩
    refine ⟨_, results_none rfl _ _ _, ⟨_, rfl⟩, .inl ⟨_, rfl, ?_⟩⟩
    exact HA.out.putObj _ hJ (by omega) hK rfl
  case hstop =>
    rintro D c' pre X hD hpre ⟨rfl, hJ⟩ hK
    gi_wp2
    refine ⟨by simp, .inl ⟨_, _, rfl, run_takeDeferred hK, ?_⟩⟩
    refine ⟨_, results_none rfl _ _ _, ⟨_, rfl⟩, .inr ⟨_, sieve_pre hpre, ?_⟩⟩
    exact HAX.out.putObj _ hJ (by omega) hK rfl
set_option maxRecDepth 1000000 in
set_option maxHeartbeats 4000000 in
theorem must1_o (n : Nat) (hn : 4 ≤ n) (l kb eb xb n₀ : Nat) (o : Int) (s : Nat) (k x : Int) (hs : s < 4294967296) (hno : o ≠ -1) (J Jx : List Nat → World → Prop) (W : World) (hA : OwnFrom W.heap.size J) (hAx : OwnFrom W.heap.size Jx)
    (hY : ∀ (pre : List Nat) (j : Nat) W1, J pre W1 → W.heap.size + 1 ≤ W1.heap.size → pre.length < (ones (wi s o)).length → YieldAt Fence.wide (n - 1) Tryd.prog l (encI j) W1 fun e W' =>
      Holds W.heap.size 1 W1 W' ∧ ((e = .returned (.bool true) ∧ J (pre ++ [j]) W' ∧ KpX n₀ xb W1 W') ∨ (e = .returned (.bool false) ∧ Jx (pre ++ [j]) W')))
    (hn0 : 0 < n₀) (hnW : n₀ ≤ W.heap.size) (hK : W.cell? ⟨kb, 0, none⟩ = some (.int .u8 1)) (hE : W.heap[eb]? = some (.cells #[.int .i64 o, .int .u32 (s : Int)] 25 (0, 0))) (hX : Boxed W xb 3 (.int .i64 x)) (hT : Tab W) (h0 : J [] W) :
    CallsIn Fence.wide n Tryd.prog 33 #[.func (.yield l) #[] #[], .pointer (some ⟨kb, 0, none⟩), .pointer (some ⟨eb, 0, none⟩), .pointer (some ⟨xb, 0, none⟩)] W fun e W' => (∃ v, e = .returned v) ∧
      ((∃ ys, ys = sieve x (ones (wi s o)) ∧ J ys W') ∨ (∃ pre, pre <+: sieve x (ones (wi s o)) ∧ Jx pre W')) := by
  have hg1 : W.grownBy (W.alloc (.cells #[.func (.yield l) #[] #[]] 49)) none := grown_alloc (grown_refl _ _) _
  have b1 := Boxed.new W 49 (.func (.yield l) #[] #[])
  have hn1 : 1 ≤ n := by omega
  have hn2 : 1 ≤ n - 1 := by omega
  have hn3 : 1 ≤ n - 1 - 1 := by omega
  have hK1 := hg1.cell hK (by simp)
  have HE1 := Lib.hid (row_grown hE hg1)
  obtain ⟨c0, c1⟩ := cells2 HE1.out
  have HXB := Lib.hid hX
  have HT0 := Lib.hid hT
  have HTL := Lib.hid hT.lt
  have HN0 := Lib.hid hn0
  have HNW := Lib.hid hnW
  have HKN : Hid (∀ w, _) := Lib.hid fun w => known_any o s w hs
  have hml := wi_lt s o hs
  have HML := Lib.hid hml
  have HG1 := Lib.hid hg1
  have HYY := Lib.hid hY
  have HA := Lib.hid hA
  have HAX := Lib.hid hAx
  have H0 := Lib.hid h0
  generalize wi s o = m at HKN HML HYY hml ⊢
  have ek : (o == -1) = false := by simpa using hno
  clear hY hA hAx h0 hg1 hK hE hX hT hs hml hn0 hnW hno
  refine callsIn_of_wp_marks Tryd.func33 rfl trivial ?_ rfl
  simp only [Tryd.ntmps33, List.size_toArray, List.length_cons, List.length_nil, Nat.reduceAdd, Nat.reduceSub, Array.replicate_succ, Array.replicate_zero, List.push_toArray, List.append_toArray, List.nil_append, List.cons_append]
  gi_wp2_with (first
    | (gi_at_call 24; ((with_reducible refine (callsIn_wide.2 (HKN.out _)).mono ?_); rintro e w5 ⟨rfl, hg5⟩; have HG5 := Lib.hid hg5; clear hg5))
    | (gi_at_call 34; refine (all_in _ _ _).mono ?_; rintro e w' ⟨rfl, rfl⟩))
  obtain ⟨W0, hW0⟩ : ∃ W0, W0 = w5.alloc (.cells #[.int .u32 (m : Int)] 23) := ⟨_, rfl⟩
  have hs5 := HG5.out.size
  simp only [World.size_alloc] at hs5
  have hgW : W.grownBy W0 none := by rw [hW0]; exact grown_alloc (grown_trans HG1.out HG5.out) _
  have hs0 : W0.heap.size = w5.heap.size + 1 := by rw [hW0]; simp
  have b2 : Boxed W0 w5.heap.size 23 (.int .u32 (m : Int)) := by rw [hW0]; exact Boxed.new _ _ _
  have b1' : Boxed W0 W.heap.size 49 (.func (.yield l) #[] #[]) := by rw [hW0]; exact (b1.kept HG5.out (by simp)).alloc _
  have hx0 := HXB.out.kept hgW (by simp)
  have hxl := HXB.out.lt
  have hT0 : Tab W0 := HT0.out.below (below_of hgW) HTL.out
  have hJ0 : J [] W0 := HA.out [] W W0 none H0.out hgW (fun r e => by cases e)
  have hnw := HNW.out
  have hn0 := HN0.out
  rw [← hW0]
  clear hW0 HG5 HE1 c0 c1 hK1 b1
  apply wpIn_rangeFunc_ownH rfl hn1 (gf := 37) (lb := #[.pointer (some ⟨w5.heap.size, 0, none⟩)]) rfl trivial (enters_of Tryd.func37 (by kernel_rfl) rfl)
    (Kp := KpX n₀ xb) (seqK_mono (all_stops (n - 1) hn2 w5.heap.size n₀ m HML.out W0 (by omega) hn0 b2.cell hT0) (fun _ _ h => h.1)) (fun {A B C} h k => KpX.trans h k) (KpX.put (by omega) (by omega)) (Below.refl _ _) (fun _ => rfl)
    (fun pre X => (Boxed X W.heap.size 49 (.func (.yield l) #[] #[]) ∧ Boxed X xb 3 (.int .i64 x)) ∧ J (sieve x pre) X)
    (fun cc ys X => cc = .ret ∧ Jx (sieve x ys) X)
    (OwnFrom.and (OwnFrom.and (boxed_from _ _ (fun _ => _)) (boxed_from _ _ (fun _ => _))) (ownFrom_map _ (ownFrom_up HA.out (by omega))))
    (fun c' => OwnFrom.and (fun s A B row hs hg hr => hs) (ownFrom_map _ (ownFrom_up HAX.out (by omega))))
    ⟨⟨b1', hx0⟩, hJ0⟩
    (fun j a' X => a' = { tmps := #[.func (.yield l) #[] #[], .pointer (some ⟨kb, 0, none⟩), .pointer (some ⟨eb, 0, none⟩), .pointer (some ⟨xb, 0, none⟩), .pointer (some ⟨W.heap.size, 0, none⟩), .int .i64 (j : Int), .int .u8 1, .bool true, .bool true, .pointer (some ⟨eb, 0, none⟩), .int .i64 o, .bool false, .bool false, .agg #[.int .i64 o, .int .u32 (s : Int)], .int .u32 (m : Int), .func (.func 37) #[] #[.pointer (some ⟨w5.heap.size, 0, none⟩)], .int .i64 (j : Int), undef, undef, undef, undef, undef, undef, undef, undef, undef], defers := [] })
  case hAx =>
    rintro x a' s A B row h hg hr
    exact h
  case hassign =>
    rintro l' pre j X K ⟨⟨hb, hxb⟩, hJ⟩ hK
    have HK := Lib.hid hK
    have HJ := Lib.hid hJ
    have HB := Lib.hid hb
    have HXX := Lib.hid hxb
    clear hK hJ hb hxb
    gi_wp2
    exact HK.out _ _ (KeepsFrom.refl _ _) (KpX.refl _) ⟨⟨HB.out, HXX.out⟩, HJ.out⟩ rfl
  case hbody =>
    rintro l' pre j a' X hl' _ ⟨⟨hb, hxb⟩, hJ⟩ rfl hlt
    have hxc := hxb.cell
    have hbc := hb.cell
    have HB := Lib.hid hb
    have HXX := Lib.hid hxb
    by_cases hj : (j : Int) = x
    · have ej : ((j : Int) != x) = false := by simpa using hj
      have HJ := Lib.hid hJ
      have HS := Lib.hid (sieve_out pre hj)
      clear hJ hb hxb hlt hl' hj
      gi_wp2
      exact ⟨KeepsFrom.refl _ _, KpX.refl _, ⟨HB.out, HXX.out⟩, by rw [HS.out]; exact HJ.out⟩
    · have ej : ((j : Int) != x) = true := by simpa using hj
      obtain ⟨fn, tmps, assign, body, hy, hR⟩ := HYY.out (sieve x pre) j X hJ hb.lt (Nat.lt_of_le_of_lt (sieve_len x pre) hlt)
      have HS := Lib.hid (sieve_in pre hj)
      unfold encI at hy
      clear hJ hb hxb hlt hl' hj
      gi_wp2
      refine (round_in _ _ hR).mono ?_
      rintro e X3 ⟨hkf, (⟨rfl, hJ3, hk3⟩ | ⟨rfl, hJx3⟩)⟩
      · have hb3 : Boxed X3 W.heap.size 49 (.func (.yield l) #[] #[]) := (hkf.same _ (Nat.le_refl _) (by omega)).trans HB.out
        have hx3 : Boxed X3 xb 3 (.int .i64 x) := hk3.2.trans HXX.out
        gi_wp2
        exact ⟨keeps_up hkf.keeps (by omega), hk3, ⟨hb3, hx3⟩, by rw [HS.out]; exact hJ3⟩
      · gi_wp2
        exact ⟨keeps_up hkf.keeps (by omega), rfl, by rw [HS.out]; exact hJx3⟩
  case hdone =>
    rintro D ys X hD rfl ⟨⟨hb, hxb⟩, hJ⟩ hK
    gi_wp2
    refine ⟨by simp, .inl ⟨_, _, rfl, run_takeDeferred hK, ?_⟩⟩
    refine ⟨_, results_none rfl _ _ _, ⟨_, rfl⟩, .inl ⟨_, rfl, ?_⟩⟩
    exact HA.out.putObj _ hJ (by omega) hK rfl
  case hstop =>
    rintro D c' pre X hD hpre ⟨rfl, hJ⟩ hK
    gi_wp2
    refine ⟨by simp, .inl ⟨_, _, rfl, run_takeDeferred hK, ?_⟩⟩
    refine ⟨_, results_none rfl _ _ _, ⟨_, rfl⟩, .inr ⟨_, sieve_pre hpre, ?_⟩⟩
    exact HAX.out.putObj _ hJ (by omega) hK rfl
end Go.Proofs.YtplebmafdfciaaaDoor.en
