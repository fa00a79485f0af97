/-
  Who must be asked, as package entry answers: contract. Conditions: those that each theorem names (the library's table lies in its variable).
-/
import Derived.Test.YtplebmafdfciaaaDoorEnI
namespace Go.Proofs.YtplebmafdfciaaaDoor.en
open Go Go.RowKit Go.Shelf
open Go.Proofs.YtplebmafdfciaaaDoor.mm (wi wo wi_lt wo_lt wi_in wi_out wo_in wo_out in_or anot_bit ones Tab with_any pow_lt)
open Go.Proofs.YtplebmafdfciaaaDoor.tt (Holds SeqR rangeR keeps_up)
set_option linter.unusedVariables false
attribute [local simp] wide_fn
attribute [local go_sem] Oper.semAt_some

theorem must_stops (n : Nat) (hn : 4 ≤ n) (kb eb xb n₀ : Nat) (o : Int) (s : Nat) (k x : Int) (hs : s < 4294967296) (w : World) (hn0 : 0 < n₀) (hnw : n₀ ≤ w.heap.size) (hK : w.cell? ⟨kb, 0, none⟩ = some (.int .u8 k))
    (hE : w.heap[eb]? = some (.cells #[.int .i64 o, .int .u32 (s : Int)] 25 (0, 0))) (hX : Boxed w xb 3 (.int .i64 x)) (hT : Tab w) :
    SeqR Fence.wide n Tryd.prog 33 #[.pointer (some ⟨kb, 0, none⟩), .pointer (some ⟨eb, 0, none⟩), .pointer (some ⟨xb, 0, none⟩)] encI (KpX n₀ xb) (fun ys => ys = want o s k x) (fun pre => pre <+: want o s k x) (ones (wi s o)).length 1 w := fun l J Jx W hW hJ hJx hY h0 => by
  have hK' := (hW.cell (p := ⟨kb, 0, none⟩) (World.block_lt_of_cell? w _ hK)).trans hK
  have hE' := (hW.block eb (Array.getElem?_eq_some_iff.1 hE).1).trans hE
  have hX' : Boxed W xb 3 (.int .i64 x) := (hW.block xb hX.lt).trans hX
  have hT' := hT.below hW hT.lt
  have hnW : n₀ ≤ W.heap.size := Nat.le_trans hnw hW.size
  by_cases hk : k = 1
  · subst hk
    by_cases ho : o = -1
    · subst ho
      have e : want (-1) s 1 x = [] := if_pos ⟨rfl, rfl⟩
      exact (must1_none n hn l kb eb xb s x J Jx W hJ hK' hE' h0).mono fun e' W' h => ⟨h.1, .inl ⟨[], e.symm, h.2⟩⟩
    · have e : want o s 1 x = sieve x (ones (wi s o)) := if_neg (fun h => ho h.2)
      rw [e]
      exact must1_o n hn l kb eb xb n₀ o s 1 x hs ho J Jx W hJ hJx hY hn0 hnW hK' hE' hX' hT' h0
  · have e : want o s k x = sieve x (ones (wi s o)) := if_neg (fun h => hk h.1)
    rw [e]
    exact must1_k n hn l kb eb xb n₀ o s k x hs hk J Jx W hJ hJx hY hn0 hnW hK' hE' hX' hT' h0

theorem must_any (o : Int) (s : Nat) (k x : Int) (w : World) : Calls Tryd.prog 22 #[.agg #[.int .i64 o, .int .u32 (s : Int)], .int .u8 k, .int .i64 x] w fun e w' =>
    e = .returned (.func (.func 33) #[] #[.pointer (some ⟨w.heap.size + 1, 0, none⟩), .pointer (some ⟨w.heap.size, 0, none⟩), .pointer (some ⟨w.heap.size + 2, 0, none⟩)]) ∧
      w' = ((w.alloc (.cells #[.int .i64 o, .int .u32 (s : Int)] 25)).alloc (.cells #[.int .u8 k] 5)).alloc (.cells #[.int .i64 x] 3) := by
  go_enter Tryd.func22, Tryd.ntmps22
  go_wp2
  go_ret
  exact ⟨rfl, rfl⟩

/-- The set of a row. -/
def fold (l : List Nat) : Nat := l.foldl (fun (m : Nat) (j : Nat) => wi m (j : Int)) 0
theorem fold_snoc (l : List Nat) (j : Nat) : fold (l ++ [j]) = wi (fold l) (j : Int) := by simp [fold]
theorem fold_lt (l : List Nat) : fold l < 4294967296 := by
  have : ∀ (l : List Nat) m, m < 4294967296 → l.foldl (fun (m : Nat) (j : Nat) => wi m (j : Int)) m < 4294967296 := fun l => by
    induction l with
    | nil => exact fun m hm => hm
    | cons j l ih => exact fun m hm => ih _ (wi_lt m j hm)
  exact this l 0 (by decide)
theorem fold_bit (l : List Nat) (h : ∀ j ∈ l, j < 32) (i : Nat) : (fold l).testBit i = decide (i ∈ l) := by
  have : ∀ (l : List Nat) m, (∀ j ∈ l, j < 32) → (l.foldl (fun (m : Nat) (j : Nat) => wi m (j : Int)) m).testBit i = (m.testBit i || decide (i ∈ l)) := fun l => by
    induction l with
    | nil => intro m _; simp
    | cons j l ih =>
      intro m hm
      rw [List.foldl_cons, ih _ (fun q hq => hm q (List.mem_cons_of_mem _ hq)), wi_in m j (hm j (by simp)), Nat.testBit_or, Nat.testBit_two_pow, Bool.or_assoc]
      congr 1
      by_cases e : j = i
      · subst e; simp
      · have e' : ¬ i = j := fun h => e h.symm
        simp [e, e']
  have h0 := this l 0 h
  simpa [fold] using h0
theorem ones_mem {m i : Nat} : i ∈ ones m ↔ i < 32 ∧ m.testBit i = true := by unfold ones; rw [List.mem_filter, List.mem_range]
theorem bit_lt {m i : Nat} (hm : m < 4294967296) (h : m.testBit i = true) : i < 32 := by
  by_cases hi : i < 32
  · exact hi
  · rw [Nat.testBit_lt_two_pow (Nat.lt_of_lt_of_le hm (by show 2 ^ 32 ≤ 2 ^ i; exact Nat.pow_le_pow_right (by decide) (by omega)))] at h
    cases h
theorem wo_bit (m : Nat) (x : Int) (hm : m < 4294967296) (i : Nat) : (wo m x).testBit i = (m.testBit i && !decide ((i : Int) = x)) := by
  rcases in_or x with ⟨k, hk, rfl⟩ | h
  · rw [wo_in m k hk, anot_bit m k i hm hk]
    congr 2
    rw [decide_eq_decide]; omega
  · rw [wo_out m x h]
    cases hb : m.testBit i
    · rfl
    · have := bit_lt hm hb
      rw [decide_eq_false (by omega)]; rfl
theorem fold_sieve (m : Nat) (x : Int) (hm : m < 4294967296) : fold (sieve x (ones m)) = wo m x := by
  apply Nat.eq_of_testBit_eq
  intro i
  rw [fold_bit (sieve x (ones m)) (fun j hj => (ones_mem.1 (List.mem_filter.1 hj).1).1) i, wo_bit m x hm]
  have : (i ∈ sieve x (ones m)) ↔ (m.testBit i && !decide ((i : Int) = x)) = true := by
    unfold sieve
    rw [List.mem_filter, ones_mem]
    simp
    exact fun _ h => bit_lt hm h
  by_cases h : i ∈ sieve x (ones m)
  · rw [decide_eq_true h, this.1 h]
  · rw [decide_eq_false h]
    cases hb : (m.testBit i && !decide ((i : Int) = x))
    · rfl
    · exact absurd (this.2 hb) h
/-- Who must be asked, as a set. -/
def asks (o : Int) (s : Nat) (k x : Int) : Nat := if k = 1 ∧ o = -1 then 0 else wo (wi s o) x
theorem fold_want (o : Int) (s : Nat) (k x : Int) (hs : s < 4294967296) : fold (want o s k x) = asks o s k x := by
  unfold want asks
  by_cases h : k = 1 ∧ o = -1
  · rw [if_pos h, if_pos h]; rfl
  · rw [if_neg h, if_neg h]; exact fold_sieve _ _ (wi_lt s o hs)
theorem asks_lt (o : Int) (s : Nat) (k x : Int) (hs : s < 4294967296) : asks o s k x < 4294967296 := by rw [← fold_want o s k x hs]; exact fold_lt _
/-- What Asked answers. -/
def asked (e : En) (k x : Int) : Nat × Int × Int := if ask e k x then (asks e.o e.s k x, (if k = 1 then 4 else 5), 0) else (0, 0, 2)
def told (r : Nat × Int × Int) : Ending := .returned (.tuple #[.int .u32 (r.1 : Int), .int .u8 r.2.1, .int .i64 r.2.2])

set_option maxRecDepth 1000000 in
set_option maxHeartbeats 4000000 in
theorem asked_any (o : Int) (s : Nat) (k x : Int) (w : World) (hs : s < 4294967296) (hT : Tab w) : Calls Tryd.prog 7 #[.agg #[.int .i64 o, .int .u32 (s : Int)], .int .u8 k, .int .i64 x] w fun e w' => e = told (asked ⟨o, s⟩ k x) ∧ w.grownBy w' none := by
  refine (callsIn_wide (n := 9)).1 ?_
  have HE0 : Hid ((w.alloc (.cells #[.int .i64 o, .int .u32 (s : Int)] 25)).heap[w.heap.size]? = some (.cells #[.int .i64 o, .int .u32 (s : Int)] 25 (0, 0))) := Lib.hid (heap_alloc_new _ _)
  have HG0 : Hid (w.grownBy (w.alloc (.cells #[.int .i64 o, .int .u32 (s : Int)] 25)) none) := Lib.hid (grown_alloc (grown_refl _ _) _)
  have HM : Hid (∀ w, _) := Lib.hid fun w => mayAsk_any o s k x w hs
  unfold asked
  cases hask : ask ⟨o, s⟩ k x
  · rw [hask] at HM
    rw [if_neg (by simp)]
    obtain ⟨c0, c1⟩ := cells2 HE0.out
    clear hask hs hT
    refine callsIn_of_wp_marks Tryd.func7 rfl trivial ?_ rfl
    simp only [Tryd.ntmps7, List.size_toArray, List.length_cons, List.length_nil, Nat.reduceAdd, Nat.reduceSub, Array.replicate_succ, Array.replicate_zero, List.push_toArray, List.append_toArray, List.nil_append, List.cons_append]
    gi_wp2_with (gi_at_call 21; ((with_reducible refine (callsIn_wide.2 (HM.out _)).mono ?_); rintro e w5 ⟨rfl, hg5⟩; have HG5 := Lib.hid (grown_trans HG0.out hg5); clear hg5))
    exact ⟨_, results_tmp3 rfl _ _ _, rfl, HG5.out⟩
  · rw [hask] at HM
    rw [if_pos rfl]
    obtain ⟨c0, c1⟩ := cells2 HE0.out
    have HS := Lib.hid hs
    have HTT := Lib.hid hT
    have HF := Lib.hid (fold_want o s k x hs)
    have HMU : Hid (∀ w, _) := Lib.hid fun w => must_any o s k x w
    obtain ⟨q, hq⟩ : ∃ q : Int, q = if k = 1 then 4 else 5 := ⟨_, rfl⟩
    show CallsIn _ _ _ _ _ _ (fun e w' => e = told (asks o s k x, (if k = 1 then 4 else 5), 0) ∧ w.grownBy w' none)
    rw [← hq]
    have HQ := Lib.hid hq
    clear hask hs hT hq
    refine callsIn_of_wp_marks Tryd.func7 rfl trivial ?_ rfl
    simp only [Tryd.ntmps7, List.size_toArray, List.length_cons, List.length_nil, Nat.reduceAdd, Nat.reduceSub, Array.replicate_succ, Array.replicate_zero, List.push_toArray, List.append_toArray, List.nil_append, List.cons_append]
    gi_wp2_with (first
      | (gi_at_call 21; ((with_reducible refine (callsIn_wide.2 (HM.out _)).mono ?_); rintro e w5 ⟨rfl, hg5⟩; have HG5 := Lib.hid (grown_trans HG0.out hg5); obtain ⟨d0, d1⟩ := cells2 (row_grown HE0.out (grown_alloc hg5 (.cells #[.int .u32 0] 23))); clear hg5))
      | (gi_at_call 22; ((with_reducible refine (callsIn_wide.2 (HMU.out _)).mono ?_); rintro e w' ⟨rfl, rfl⟩)))
    obtain ⟨W0, hW0⟩ : ∃ W0, W0 = ((((w5.alloc (.cells #[.int .u32 0] 23)).alloc (.cells #[.int .i64 o, .int .u32 (s : Int)] 25)).alloc (.cells #[.int .u8 k] 5)).alloc (.cells #[.int .i64 x] 3)) := ⟨_, rfl⟩
    have bw := Boxed.new w5 23 (.int .u32 0)
    have be := heap_alloc_new (w5.alloc (.cells #[.int .u32 0] 23)) (.cells #[.int .i64 o, .int .u32 (s : Int)] 25)
    have bk := Boxed.new ((w5.alloc (.cells #[.int .u32 0] 23)).alloc (.cells #[.int .i64 o, .int .u32 (s : Int)] 25)) 5 (.int .u8 k)
    have bx := Boxed.new (((w5.alloc (.cells #[.int .u32 0] 23)).alloc (.cells #[.int .i64 o, .int .u32 (s : Int)] 25)).alloc (.cells #[.int .u8 k] 5)) 3 (.int .i64 x)
    simp only [World.size_alloc] at be bk bx
    have bw' := ((bw.alloc (.cells #[.int .i64 o, .int .u32 (s : Int)] 25)).alloc (.cells #[.int .u8 k] 5)).alloc (.cells #[.int .i64 x] 3)
    have be' := row_grown be (grown_alloc (grown_alloc (grown_refl _ _) (.cells #[.int .u8 k] 5)) (.cells #[.int .i64 x] 3))
    have bk' := bk.alloc (.cells #[.int .i64 x] 3)
    have hgW : w.grownBy W0 none := by rw [hW0]; exact grown_alloc (grown_alloc (grown_alloc (grown_alloc HG5.out _) _) _) _
    have hs0 : W0.heap.size = w5.heap.size + 4 := by rw [hW0]; simp
    have hs5 := HG5.out.size
    have hT0 : Tab W0 := HTT.out.below (below_of hgW) HTT.out.lt
    have hn0 := HTT.out.lt
    rw [← hW0] at bw' be' bk' bx ⊢
    clear hW0 bw be bk d0 d1 c0 c1
    have hHS := HS.out
    apply rangeR rfl (by omega) (gf := 33) (lb := #[.pointer (some ⟨w5.heap.size + 1 + 1, 0, none⟩), .pointer (some ⟨w5.heap.size + 1, 0, none⟩), .pointer (some ⟨w5.heap.size + 1 + 2, 0, none⟩)]) rfl trivial (enters_of Tryd.func33 (by kernel_rfl) rfl)
      (Kp := KpX w.heap.size (w5.heap.size + 1 + 2)) (must_stops 8 (by omega) (w5.heap.size + 1 + 1) (w5.heap.size + 1) (w5.heap.size + 1 + 2) w.heap.size o s k x hHS W0 hn0 (by omega) bk'.cell be' bx hT0) (fun {A B C} h k => KpX.trans h k) (KpX.put (by omega) (by omega)) (Below.refl _ _) (fun _ => rfl)
      (fun pre X => Boxed X w5.heap.size 23 (.int .u32 (fold pre : Nat)) ∧ Below w.heap.size w X)
      (fun cc ys X => False)
      (OwnFrom.and (boxed_from _ _ (fun pre => .int .u32 (fold pre : Nat))) (ownFrom_below (Nat.le_refl _) (by omega)))
      (fun c' s A B row hs hg hr => hs)
      ⟨bw', below_of hgW⟩
      (fun j a' X => a' = { tmps := #[.agg #[.int .i64 o, .int .u32 (s : Int)], .int .u8 k, .int .i64 x, .pointer (some ⟨w.heap.size, 0, none⟩), undef, undef, .int .u32 0, .int .u8 0, .int .i64 0, .pointer (some ⟨w5.heap.size, 0, none⟩), .int .i64 (j : Int), .agg #[.int .i64 o, .int .u32 (s : Int)], .int .u8 k, .int .i64 x, .bool true, .bool false, .agg #[.int .i64 o, .int .u32 (s : Int)], .int .u8 k, .int .i64 x,
        .func (.func 33) #[] #[.pointer (some ⟨w5.heap.size + 1 + 1, 0, none⟩), .pointer (some ⟨w5.heap.size + 1, 0, none⟩), .pointer (some ⟨w5.heap.size + 1 + 2, 0, none⟩)], .int .i64 (j : Int), undef, undef, undef, undef, undef, undef, undef], defers := [] })
    case hAx =>
      rintro x a' s A B row h hg hr
      exact h
    case hassign =>
      rintro l' pre j X K hI hsz hK
      have HK := Lib.hid hK
      have HI := Lib.hid hI
      clear hK hI
      unfold encI
      gi_wp2
      exact HK.out _ _ ⟨KeepsFrom.refl _ _, Holds.refl _ _ _⟩ (KpX.refl _) HI.out rfl
    case hbody =>
      rintro l' pre j a' X hl' ⟨hb, hbl⟩ rfl hsz hlt
      have hc := hb.cell
      have hf := hb.frozen
      have HB := Lib.hid hb
      have HBL := Lib.hid hbl
      have HSZ := Lib.hid hsz
      have HSN := Lib.hid (fold_snoc pre j)
      have HW : Hid (∀ n, CallsIn (Fence.wide.inRound l') n Tryd.prog 19 _ X _) := Lib.hid fun n => CallsIn.inRound l' (callsIn_wide.2 (with_any (fold pre) (j : Int) X (fold_lt pre)))
      have HS5 := Lib.hid hs5
      have HS0 := Lib.hid hs0
      clear hb hbl hlt hl' hsz hs5 hs0 bw' be' bk' bx hT0 hgW
      generalize fold pre = m at hc HSN HW HB
      gi_wp2_with (gi_at_call 19; ((with_reducible refine (HW.out _).mono ?_); rintro e X2 ⟨rfl, rfl⟩))
      have hsz := HSZ.out
      have hs5 := HS5.out
      have hs0 := HS0.out
      exact ⟨⟨(KeepsOthers.setCell _ _ _).from _, Holds.of_grown (grownBy_setCell' _ _ _) (fun r e => by cases e; omega) (by omega)⟩, ⟨(Below.refl _ _).setCell (p := ⟨w5.heap.size, 0, none⟩) (by simp; omega) _, Below.heap_setCell _ _ _ _ (show w5.heap.size + 1 + 2 ≠ w5.heap.size by omega)⟩, by rw [HSN.out]; exact HB.out.set _, HBL.out.setCell (p := ⟨w5.heap.size, 0, none⟩) (by simp; omega) _⟩
    case hdone =>
      rintro D ys X hD rfl ⟨hb, hbl⟩ hK
      have hc := hb.cell
      rw [HF.out] at hc
      have hbb := hbl.trans (belowK_b (w := w) (Nat.le_refl _) X D (.deferred (some [])) (.deferred none) (by omega) hK rfl rfl)
      have HBB : Hid (w.grownBy (X.putObj D (.deferred none)) none) := Lib.hid ⟨hbb.os, hbb.tape, hbb.output, hbb.size, fun k hk _ => hbb.block k hk⟩
      have HKK := Lib.hid hK
      obtain ⟨m, hm⟩ : ∃ m, m = asks o s k x := ⟨_, rfl⟩
      rw [← hm] at hc
      have HM2 := Lib.hid hm
      clear hb hbl hbb hK hD hs5 hs0 bw' be' bk' bx hT0 hgW hm
      by_cases hk : k = 1
      · subst hk
        gi_wp2
        refine ⟨by simp, .inl ⟨_, _, rfl, run_takeDeferred HKK.out, ?_⟩⟩
        exact ⟨_, results_tmp3 rfl _ _ _, by rw [HQ.out, ← HM2.out]; rfl, HBB.out⟩
      · have ek : (k == 1) = false := by simpa using hk
        have HQ5 : Hid (q = 5) := Lib.hid (by rw [HQ.out, if_neg hk])
        clear hk
        gi_wp2
        refine ⟨by simp, .inl ⟨_, _, rfl, run_takeDeferred HKK.out, ?_⟩⟩
        exact ⟨_, results_tmp3 rfl _ _ _, by rw [HQ5.out, ← HM2.out]; rfl, HBB.out⟩
    case hstop =>
      rintro D c' pre X hD hpre hF hK
      exact hF.elim
end Go.Proofs.YtplebmafdfciaaaDoor.en
