/-
  The law PoolOnce returns true: the walk. No condition beyond that the lists have their values.
-/
import Derived.Test.YtkamafkajfajpaaC11
import Derived.Shelf.RegionOpen
namespace Go.Proofs.Ytkamafkajfajpaa.pp
open Go Go.RowKit Go.Shelf
set_option linter.unusedVariables false
attribute [local go_sem] Oper.semAt_some

/-- What follows, where nothing panics. -/
def calm (Q : Exit → Act → World → Prop) : Exit → Act → World → Prop
  | .panic _, _, _ => False
  | e, a, w => Q e a w
theorem wpIn_calm {F : Fence} {n : Nat} {P : Program} {c : Code} {Q : Exit → Act → World → Prop} {a : Act} {w : World} (h : c.wpIn F n P (calm Q) a w) : c.wpIn F n P Q a w :=
  Code.wpIn_mono (Q := calm Q) (fun e a w hq => by cases e <;> first | exact hq | exact False.elim hq) h
theorem calm_normal {Q : Exit → Act → World → Prop} {a : Act} {w : World} (h : Q .normal a w) : calm Q .normal a w := h

/-- A place out of any number. -/
theorem place_of (pl : Int) (q : Nat) (hq : 0 < q) (h : q ≤ 65536) : ∃ kk : Nat, kk < q ∧ (IntKind.i64.wrap (pl.tmod (q : Int) + (q : Int))).tmod (q : Int) = (kk : Int) := by
  have hp : (0 : Int) < (q : Int) := by omega
  have h1 := Int.tmod_lt_of_pos pl hp
  have h2 := Int.lt_tmod_of_pos pl hp
  have hw : IntKind.i64.wrap (pl.tmod (q : Int) + (q : Int)) = pl.tmod (q : Int) + (q : Int) := by
    simp [IntKind.wrap, IntKind.bits, IntKind.signed]; omega
  rw [hw]
  have h3 := Int.tmod_nonneg (q : Int) (show (0 : Int) ≤ pl.tmod (q : Int) + (q : Int) by omega)
  have h4 := Int.tmod_lt_of_pos (pl.tmod (q : Int) + (q : Int)) hp
  exact ⟨((pl.tmod (q : Int) + (q : Int)).tmod (q : Int)).toNat, by omega, by omega⟩

/-- What was taken is laid behind what was taken before. -/
theorem collected {w0 w3 w4 : World} {tmp : Obj} {n T0 b R0 room : Nat} {tv v4 v3 u : Value} {xs : List Int} {ys zs : List Value} (ht : Boxed w3 T0 39 tv) (hr : Boxed w3 R0 4 u) (hp : IPool w3 b v3 room xs) (hs : Sl w3 3 tv ys) (h4 : Sl w4 3 v4 zs)
    (hg : (w3.alloc tmp).grownBy w4 tv.ownBlock) (hn : Next (w3.alloc tmp) w4 tv v4) (hT : b ≠ T0) (hR : R0 ≠ T0) (hR' : some R0 ≠ tv.ownBlock) (hTt : some T0 ≠ tv.ownBlock) (hbt : some b ≠ tv.ownBlock) (hTv : some T0 ≠ v3.ownBlock) (hdis : tv.ownBlock = none ∨ tv.ownBlock ≠ v3.ownBlock)
    (hB : Below n w0 w3) (hnT : n ≤ T0) (hn3 : n ≤ w3.heap.size) (hnt : ∀ j, tv.ownBlock = some j → n ≤ j) :
    (w4.cell? ⟨T0, 0, none⟩ = some tv ∧ w4.frozen? ⟨T0, 0, none⟩ = false) ∧ Boxed (w4.setCell ⟨T0, 0, none⟩ v4) R0 4 u ∧ Boxed (w4.setCell ⟨T0, 0, none⟩ v4) T0 39 v4 ∧ IPool (w4.setCell ⟨T0, 0, none⟩ v4) b v3 room xs ∧ Sl (w4.setCell ⟨T0, 0, none⟩ v4) 3 v4 zs ∧ Below n w0 (w4.setCell ⟨T0, 0, none⟩ v4) ∧
      (v4.ownBlock = none ∨ v4.ownBlock ≠ v3.ownBlock) ∧ ∀ j, v4.ownBlock = some j → tv.ownBlock = some j ∨ w3.heap.size ≤ j := by
  have keep : ∀ k, k < w3.heap.size → some k ≠ tv.ownBlock → w4.heap[k]? = w3.heap[k]? := fun k hk he => (hg.block k (by simp; omega) he).trans (Below.heap_alloc _ _ _ hk)
  have t4 : Boxed w4 T0 39 tv := (keep T0 (Go.Boxed.lt ht) hTt).trans ht
  have hown : ∀ j, v4.ownBlock = some j → tv.ownBlock = some j ∨ w3.heap.size ≤ j := fun j hj => by
    rcases hn with e | e
    · exact .inl (e ▸ hj)
    · have := e j hj; simp at this; exact .inr (by omega)
  have hTl := Go.Boxed.lt ht
  have hT4 : ∀ j, v4.ownBlock = some j → j ≠ T0 := fun j hj e => by
    rcases hown j hj with h | h
    · exact hTt (by rw [h, e])
    · omega
  refine ⟨⟨t4.cell, t4.frozen⟩, ?_, t4.set v4, ?_, h4.of_block fun j hj => Below.heap_setCell _ _ _ _ (hT4 j hj), ?_, ?_, hown⟩
  · exact (Below.heap_setCell _ _ _ _ hR).trans ((keep R0 (Go.Boxed.lt hr) hR').trans hr)
  · refine hp.of_block ((Below.heap_setCell _ _ _ _ hT).trans (keep b hp.lt hbt)) fun j hj => (Below.heap_setCell _ _ _ _ (fun e => hTv (by rw [hj]; exact congrArg some e.symm))).trans (keep j (hp.sl.lt j hj) fun e => ?_)
    rcases hdis with h | h
    · rw [h] at e; cases e
    · exact h (by rw [← e, hj])
  · exact ((hB.alloc hn3 tmp).grown hg (by simp; omega) (fun j e => hnt j e)).setCell (p := ⟨T0, 0, none⟩) hnT v4
  · cases h : v4.ownBlock with
    | none => exact .inl rfl
    | some j =>
      refine .inr fun e => ?_
      rcases hown j h with h2 | h2
      · rcases hdis with h3 | h3
        · rw [h2] at h3; cases h3
        · exact h3 (by rw [h2, e])
      · have := hp.sl.lt j e.symm; omega

theorem Sl.own {W W' : World} {row : Option Nat} {e : TypeId} {v : Value} {xs : List Value} (h : Sl W e v xs) (hg : W.grownBy W' row) (hr : ∀ r, row = some r → ∃ o : Obj, W.heap[r]? = some o ∧ o.isCells = false) : Sl W' e v xs :=
  h.of_block fun g hv => hg.block g (h.lt g hv) fun e' => by
    obtain ⟨o, ho, hc⟩ := hr g e'.symm
    rcases h with ⟨rfl, _⟩ | ⟨g', off, cap, cur, rfl, hb, _⟩
    · simp [Value.ownBlock] at hv
    · simp [Value.ownBlock] at hv; subst hv
      rw [hb] at ho; cases ho; cases hc
theorem Pool.own' {W W' : World} {row : Option Nat} {T e : TypeId} {b room : Nat} {v : Value} {xs : List Value} (h : Pool W T e b v room xs) (hg : W.grownBy W' row) (hr : ∀ r, row = some r → ∃ o : Obj, W.heap[r]? = some o ∧ o.isCells = false) : Pool W' T e b v room xs :=
  ⟨(hg.block b h.lt fun e' => by
    obtain ⟨o, ho, hc⟩ := hr b e'.symm
    rw [h.blk] at ho; cases ho; cases hc).trans h.blk, Sl.own h.sl hg hr, h.own⟩

/-- The last thing that was told; -1, if none was. -/
def lastv (xs : List Int) {q : Nat} (pre : List (Fin q)) : Int := match pre.getLast? with | some i => xs.getD i.val 0 | none => -1
theorem lastv_snoc (xs : List Int) {q : Nat} (pre : List (Fin q)) (i : Fin q) : lastv xs (pre ++ [i]) = xs.getD i.val 0 := by simp [lastv]
theorem rising {n q : Nat} {xs ts : List Int} (h : Apart n xs ts) (hq : q = xs.length) (pre : List (Fin q)) (i : Fin q) (hp : pre ++ [i] <+: List.finRange q) : lastv xs pre < xs.getD i.val 0 := by
  have hi : i.val < xs.length := hq ▸ i.isLt
  have e : xs.getD i.val 0 = xs[i.val] := by rw [List.getD_eq_getElem?_getD, List.getElem?_eq_getElem hi]; rfl
  have hle := hp.length_le
  rw [List.length_append, List.length_finRange] at hle
  simp at hle
  rw [List.prefix_iff_getElem?] at hp
  have hi2 := hp pre.length (by simp)
  rw [fins_at q pre.length (by omega)] at hi2
  simp at hi2
  rw [e]
  cases hl : pre.getLast? with
  | none =>
    have : xs[i.val] ∈ xs := List.getElem_mem hi
    have := h.pos _ this
    unfold lastv
    rw [hl]; simp; omega
  | some j =>
    have hj : j.val < xs.length := hq ▸ j.isLt
    have e2 : xs.getD j.val 0 = xs[j.val] := by rw [List.getD_eq_getElem?_getD, List.getElem?_eq_getElem hj]; rfl
    unfold lastv
    rw [hl]
    simp only [e2]
    rw [List.getLast?_eq_getElem?] at hl
    obtain ⟨hlt, hl2⟩ := List.getElem?_eq_some_iff.1 hl
    have hj2 := hp (pre.length - 1) (by simp; omega)
    rw [fins_at q (pre.length - 1) (by omega), List.getElem_append_left hlt, hl2] at hj2
    simp at hj2
    have hpw := h.up
    rw [List.pairwise_iff_getElem] at hpw
    have e3 := congrArg Fin.val hj2
    have e4 := congrArg Fin.val hi2
    simp at e3 e4
    have hlt' := hlt
    exact hpw j.val i.val hj hi (by omega)

theorem one_box {w w1 : World} {t1 : TypeId} {v1 : Value} (h : Below (w.alloc (.cells #[v1] t1)).heap.size (w.alloc (.cells #[v1] t1)) w1) :
    Boxed w1 w.heap.size t1 v1 ∧ w.heap.size + 1 ≤ w1.heap.size ∧ Below w.heap.size w w1 := by
  have b1 := Boxed.new w t1 v1
  have hs := h.size
  simp only [World.size_alloc] at hs
  refine ⟨(h.block _ (by simp)).trans b1, by omega, ?_⟩
  exact ((Below.refl _ _).alloc (Nat.le_refl _) _).trans (h.mono (by simp))
theorem box_alloc {w w' : World} {B : Nat} {t1 : TypeId} {u1 : Value} {o : Obj} (h : Boxed w B t1 u1) (hw : w' = w.alloc o) : Boxed w' B t1 u1 ∧ w'.heap.size = w.heap.size + 1 := by
  subst hw; exact ⟨h.alloc o, by simp⟩

set_option maxRecDepth 1000000 in
set_option maxHeartbeats 8000000 in
theorem once_some (ps0 : List Int) (ad ao : Option Addr) (len cap lenO capO : Nat) (w : World) (hlo : lenO = ps0.length) (hao : At w ao (ps0.map I)) (h300 : len ≤ 300) (h3 : lenO ≤ 300) :
    Calls Try.prog 6 #[.slice ad len cap, .slice ao lenO capO] w fun e w' => e = .returned (.bool true) ∧ Below w.heap.size w w' := by
  refine (callsIn_wide (n := 5)).1 ?_
  obtain ⟨i0, hi, hz0, hz1, hz2⟩ := info_parts Try.info3
  have hmix : Try.prog.follows .mixedOrders = true := by kernel_rfl
  have HAO := Lib.hid hao
  have HLO := Lib.hid hlo
  have HN0 : ∀ w : World, Calls Try.prog 11 #[.int .i64 300] w fun e w' => e = .returned (.tuple #[.pointer (some ⟨w.heap.size, 0, none⟩), .int .i64 0]) ∧ w' = w.alloc (.cells #[.slice none 0 0, .int .i64 ((300 : Nat) : Int)] 63) := fun w => new_ok 300 w (by omega) (by omega)
  have HN := Lib.hid HN0
  clear hao hlo HN0
  refine callsIn_of_wp_marks Try.func6 rfl trivial ?_ rfl
  simp only [Try.ntmps6, List.size_toArray, List.length_cons, List.length_nil, Nat.reduceAdd, Nat.reduceSub, Array.replicate_succ, Array.replicate_zero, List.push_toArray, List.append_toArray, List.nil_append, List.cons_append]
  gi_wp2_with (first
    | (refine ⟨trivial, ?_⟩; gi_at_call 12; refine (callsIn_wide.2 (ps.works_any _)).mono ?_; rintro e w1 ⟨rfl, hb1⟩; obtain ⟨hv1, hs1, hw1⟩ := one_box hb1; clear hb1)
    | (refine ⟨trivial, ?_⟩; gi_at_call 11; refine (callsIn_wide.2 (HN.out _)).mono ?_; rintro e w2 ⟨rfl, hw2⟩; obtain ⟨hv2, hs2⟩ := box_alloc hv1 hw2; have hp2 : IPool w2 w1.heap.size (.slice none 0 0) 300 [] := pool_new hw2; have hb2 := below_alloc hw1 (by omega) hw2; clear hw2 hv1 hw1))
  gi_loopw [35] (fun i wr => ∃ (k : Nat) (v : Value), k ≤ len ∧ i = .int .i64 (k : Int) ∧ Boxed wr w.heap.size 4 (.bool false) ∧ IPool wr w1.heap.size v 300 (sq 0 k) ∧ Below w.heap.size w wr ∧ (∀ j, v.ownBlock = some j → w1.heap.size ≤ j) ∧ w1.heap.size ≤ wr.heap.size) (fun i _ => len - (intOf i).toNat)
  case atStart =>
    exact ⟨0, _, Nat.zero_le _, rfl, hv2, hp2, hb2, fun j hj => by simp [Value.ownBlock] at hj, by omega⟩
  case round =>
    clear hv2 hp2 hb2 hs2
    obtain ⟨k, v, hk, rfl, hv2, hp, hb, hv, hsr⟩ := hrel
    have HP := Lib.hid hp
    have HB := Lib.hid hb
    have HV := Lib.hid hv
    have HV2 := Lib.hid hv2
    clear hp hb hv
    by_cases hlt : k < len
    · have hpu := put_ok _ _ 300 _ ((k : Nat) : Int) _ HP.out (by rw [sq_len]; omega) (by omega)
      rw [show ((k : Nat) : Int) = ((0 + k : Nat) : Int) by omega, sq_snoc, show ((0 + k : Nat) : Int) = ((k : Nat) : Int) by omega] at hpu
      have HQ := Lib.hid hpu
      clear hpu hv2
      gi_wp2_with (refine ⟨trivial, ?_⟩; gi_at_call 13; refine (callsIn_wide.2 HQ.out).mono ?_; rintro e w3 ⟨rfl, v3, hp3, ht3⟩; have HP3 := Lib.hid hp3; have HT3 := Lib.hid ht3; clear hp3 ht3)
      obtain ⟨hB2, _⟩ := Turn.on HB.out HT3.out (by omega) (by omega) (fun j hj => by have := HV.out j hj; omega)
      have hV2 := HT3.out.next.ge hsr HV.out
      have hs3 := HT3.out.size
      have hv3 := HV2.out.turn HT3.out (by omega) (fun e => by have := HV.out _ e.symm; omega)
      go_roundw
      case rel => exact ⟨k + 1, v3, by omega, by go_num, hv3, HP3.out, hB2, hV2, by omega⟩
      case measure => simp [intOf]; omega
    · have hkn : k = len := by omega
      subst hkn
      gi_wp2_with fail
      have bt := Boxed.new wr 39 (.slice none 0 0)
      have hvl : ∀ j, v.ownBlock = some j → j < wr.heap.size := HP.out.sl.lt
      have hpt := Pool.alloc HP.out (.cells #[.slice none 0 0] 39)
      have hbt : Below w.heap.size w (wr.alloc (.cells #[.slice none 0 0] 39)) := HB.out.alloc (by omega) _
      have hrt := Go.Boxed.alloc HV2.out (.cells #[.slice none 0 0] 39)
      obtain ⟨T0, hT0⟩ : ∃ T0, T0 = wr.heap.size := ⟨_, rfl⟩
      have hT1 : w1.heap.size < T0 := by have := HP.out.lt; omega
      rw [← hT0] at bt hvl ⊢
      gi_loopw [45] (fun i W => ∃ (j : Nat) (v tv : Value) (xs ts : List Int), j ≤ lenO ∧ i = .int .i64 (j : Int) ∧ Boxed W w.heap.size 4 (.bool false) ∧ Boxed W T0 39 tv ∧ IPool W w1.heap.size v 300 xs ∧ Sl W 3 tv (ts.map I) ∧ Below w.heap.size w W ∧ Apart k xs ts ∧
        (∀ j, v.ownBlock = some j → w1.heap.size ≤ j) ∧ some T0 ≠ v.ownBlock ∧ (∀ j, tv.ownBlock = some j → T0 < j) ∧ (tv.ownBlock = none ∨ tv.ownBlock ≠ v.ownBlock)) (fun i _ => lenO - (intOf i).toNat)
      case atStart =>
        exact ⟨0, v, _, _, [], Nat.zero_le _, rfl, hrt, bt, hpt, Sl.nil _ _, hbt, Apart.start k, HV.out, fun e => by have := hvl _ e.symm; omega, fun j hj => by simp [Value.ownBlock] at hj, .inl rfl⟩
      case round =>
        clear bt hpt hbt hrt hvl HP HB HV HV2 hT0
        obtain ⟨j, v, tv, xs, ts, hj, rfl, hrb, htb, hp, hsl, hbb, hap, hvo, hne, hto, hdis⟩ := hrel
        have HRB := Lib.hid hrb
        have HTB := Lib.hid htb
        have HP := Lib.hid hp
        have HSL := Lib.hid hsl
        have HBB := Lib.hid hbb
        have HAP := Lib.hid hap
        have HVO := Lib.hid hvo
        have HNE := Lib.hid hne
        have HTO := Lib.hid hto
        have HDIS := Lib.hid hdis
        have hcnt := hap.count
        have hbs := hbb.size
        clear hrb htb hp hsl hbb hap hvo hne hto hdis
        by_cases hlt2 : j < lenO
        · obtain ⟨pl, hpl⟩ : ∃ x, ps0[j]? = some x := ⟨_, List.getElem?_eq_getElem (by have := HLO.out; omega)⟩
          obtain ⟨g, off, rfl, hcell⟩ := (HAO.out.below HBB.out) j (I pl) (by simp [hpl])
          unfold I at hcell
          clear hpl
          by_cases hq0 : xs.length = 0
          · have hle := len_any _ v 300 xs _ HP.out
            rw [hq0] at hle
            have HLE := Lib.hid hle
            clear hle
            gi_wp2_with (first
              | (refine ⟨trivial, ?_⟩; gi_at_call 14; refine (callsIn_wide.2 HLE.out).mono ?_; rintro e w3 ⟨rfl, rfl⟩)
              | (refine ⟨trivial, ?_⟩; gi_at_call 22; refine (all_in _ _ _).mono ?_; rintro e w' ⟨rfl, rfl⟩))
            have bn := Boxed.new wr 3 (.int .i64 (-1))
            have bp := Boxed.new (wr.alloc (.cells #[.int .i64 (-1)] 3)) 22 (.pointer (some ⟨w1.heap.size, 0, none⟩))
            rw [World.size_alloc] at bp
            have bn' := bn.alloc (.cells #[.pointer (some ⟨w1.heap.size, 0, none⟩)] 22)
            have hK0 : Below wr.heap.size wr ((wr.alloc (.cells #[.int .i64 (-1)] 3)).alloc (.cells #[.pointer (some ⟨w1.heap.size, 0, none⟩)] 22)) := ((Below.refl _ _).alloc (Nat.le_refl _) _).alloc (by simp) _
            obtain ⟨W0, hW0⟩ : ∃ W0, W0 = ((wr.alloc (.cells #[.int .i64 (-1)] 3)).alloc (.cells #[.pointer (some ⟨w1.heap.size, 0, none⟩)] 22)) := ⟨_, rfl⟩
            have hs0 : W0.heap.size = wr.heap.size + 2 := by rw [hW0]; simp
            rw [← hW0] at bp bn' hK0 ⊢
            have hpW : IPool W0 w1.heap.size v 300 xs := HP.out.of_block (hK0.block _ HP.out.lt) (fun g hg => hK0.block g (HP.out.sl.lt g hg))
            have hrW := HRB.out.below hK0 (Go.Boxed.lt HRB.out)
            have htW := HTB.out.below hK0 (Go.Boxed.lt HTB.out)
            have hsW : Sl W0 3 tv (ts.map I) := HSL.out.of_block (fun g hg => hK0.block g (HSL.out.lt g hg))
            have hvl : ∀ j, v.ownBlock = some j → j < wr.heap.size := HP.out.sl.lt
            have htl : ∀ j, tv.ownBlock = some j → j < wr.heap.size := HSL.out.lt
            have hB0 : Below w.heap.size w W0 := HBB.out.trans (hK0.mono HBB.out.size)
            have hTw : T0 < wr.heap.size := Go.Boxed.lt HTB.out
            have hbw := HP.out.lt
            obtain ⟨adt, capt, htv⟩ := HSL.out.form
            rw [List.length_map] at htv
            obtain ⟨q, hq⟩ : ∃ q, q = xs.length := ⟨_, rfl⟩
            obtain ⟨tq, htq⟩ : ∃ q, q = ts.length := ⟨_, rfl⟩
            rw [← htq] at htv
            clear hq0
            rw [← hq, ← htq] at hcnt
            have HQL := Lib.hid hq
            have HTQ := Lib.hid htq
            have HCNT := Lib.hid hcnt
            subst htv
            have hq300 : q ≤ 300 := by omega
            have htq300 : tq ≤ 300 := by omega
            clear bn hW0 hq htq hcnt
            apply wpIn_rangeFunc_ownF rfl (by omega) (gf := 32) (lb := #[.pointer (some ⟨wr.heap.size + 1, 0, none⟩)]) rfl trivial (enters_of Try.func32 (by kernel_rfl) rfl)
              (fin_stops (5 - 1) (by omega) (wr.heap.size + 1) w1.heap.size v 300 q xs HQL.out W0 hpW (by omega) bp.cell) (fun {A B C} => Same.trans) (Same.put (fun j hj => by have := hvl j hj; omega)) (Below.refl _ _) (fun _ => rfl)
              (fun pre W => (Boxed W w.heap.size 4 (.bool false) ∧ Boxed W T0 39 (.slice adt tq capt) ∧ Sl W 3 (.slice adt tq capt) (ts.map I) ∧ IPool W w1.heap.size v 300 xs ∧ Boxed W wr.heap.size 3 (.int .i64 (lastv xs pre))) ∧ Below w.heap.size w W)
              (fun c ys W => c = .ret ∧ ¬ ys <+: List.finRange q)
              (OwnFrom.and (Own.from (fun s A B row hs hg hr => ⟨boxed_own hs.1 hg hr, boxed_own hs.2.1 hg hr, Sl.own hs.2.2.1 hg hr, Pool.own' hs.2.2.2.1 hg hr, boxed_own hs.2.2.2.2 hg hr⟩) _) (ownFrom_below (Nat.le_refl _) (by omega)))
              (fun c' _ _ _ _ hs _ _ => hs)
              ⟨⟨hrW, htW, hsW, hpW, bn'⟩, hB0⟩
            case hassign =>
              intro l x W K hK
              have HK := Lib.hid hK
              clear hK
              unfold encF
              gi_wp2
              exact HK.out
            case hbody =>
              rintro l pre ⟨i, hi'⟩ W ⟨⟨hr0, ht0, hs0', hp0, hl0⟩, hB⟩ hlt
              obtain ⟨y, hy⟩ : ∃ y, xs[i]? = some y := ⟨_, List.getElem?_eq_getElem (by have := HQL.out; omega)⟩
              have hg : xs[i]?.getD 0 = y := by rw [hy]; rfl
              have hgd : xs.getD i 0 = y := by rw [List.getD_eq_getElem?_getD]; exact hg
              have hym : y ∈ xs := List.mem_of_getElem? hy
              have hyt : y ∉ ts := fun h => HAP.out.no y h hym
              have HC := Lib.hid (contains_not ts _ y W hs0' (by have := HTQ.out; have := HCNT.out; omega) hyt)
              have HLS := Lib.hid (lastv_snoc xs pre ⟨i, hi'⟩)
              have HGD := Lib.hid hgd
              have hlc := Go.Boxed.cell hl0
              have hlf := Go.Boxed.frozen hl0
              have htc := Go.Boxed.cell ht0
              have hrc := Go.Boxed.cell hr0
              have hrf := Go.Boxed.frozen hr0
              have hs' := hB.size
              have hl2 := Go.Boxed.set (.int .i64 y) hl0
              have hB2 := hB.setCell (p := ⟨wr.heap.size, 0, none⟩) (by simp; omega) (.int .i64 y)
              have ne : ∀ {k : Nat}, k < wr.heap.size → (W.setCell ⟨wr.heap.size, 0, none⟩ (.int .i64 y)).heap[k]? = W.heap[k]? := fun h => Below.heap_setCell _ _ _ _ (show _ ≠ wr.heap.size by omega)
              have hr2 : Boxed (W.setCell ⟨wr.heap.size, 0, none⟩ (.int .i64 y)) w.heap.size 4 (.bool false) := (ne (by omega)).trans hr0
              have ht2 : Boxed (W.setCell ⟨wr.heap.size, 0, none⟩ (.int .i64 y)) T0 39 (.slice adt tq capt) := (ne hTw).trans ht0
              have hs2 : Sl (W.setCell ⟨wr.heap.size, 0, none⟩ (.int .i64 y)) 3 (.slice adt tq capt) (ts.map I) := hs0'.of_block fun g hg => ne (htl g hg)
              have hp2 : IPool (W.setCell ⟨wr.heap.size, 0, none⟩ (.int .i64 y)) w1.heap.size v 300 xs := hp0.of_block (ne hbw) fun g hg => ne (hvl g hg)
              have hsame : Same v W (W.setCell ⟨wr.heap.size, 0, none⟩ (.int .i64 y)) := fun j hj => ne (hvl j hj)
              have HRI := Lib.hid (rising HAP.out HQL.out pre ⟨i, hi'⟩)
              obtain ⟨lv, hlv⟩ : ∃ lv, lv = lastv xs pre := ⟨_, rfl⟩
              rw [← hlv] at hlc HRI
              clear hy hgd hym hyt hlv ne
              by_cases hml : y ≤ lv
              · have hmb : y ≤ lv := hml
                have HML := Lib.hid hml
                clear hml
                gi_wp2_with (refine ⟨trivial, ?_⟩)
                exact ⟨KeepsOthers.setCell _ _ _, rfl, fun hpre => by have h1 := HRI.out hpre; have h2 := HGD.out; have h3 := HML.out; have h4 : lv < y := h2 ▸ h1; omega⟩
              · have hmb : decide (y ≤ lv) = false := by simp; omega
                clear hml
                gi_wp2_with (refine ⟨trivial, ?_⟩; gi_at_call 26; refine (CallsIn.inRound l (callsIn_wide.2 HC.out)).mono ?_; rintro e w' ⟨rfl, rfl⟩)
                exact ⟨KeepsOthers.setCell _ _ _, hsame, ⟨hr2, ht2, hs2, hp2, by rw [HLS.out]; exact HGD.out.symm ▸ hl2⟩, hB2⟩
            case hdone =>
              rintro D ys W hD rfl ⟨⟨hr0, ht0, hs0', hp0, hl0⟩, hB⟩ hK
              have htc := Go.Boxed.cell ht0
              have hrc := Go.Boxed.cell hr0
              have hrf := Go.Boxed.frozen hr0
              have hle2 : Calls Try.prog 14 #[.pointer (some ⟨w1.heap.size, 0, none⟩)] W.drew fun e w' => e = .returned (.int .i64 (q : Int)) ∧ W.drew = w' := by
                rw [HQL.out]; exact len_any _ v 300 xs _ (hp0.drewN 1)
              have HLE2 := Lib.hid hle2
              have heq : IntKind.i64.wrap ((q : Int) + (tq : Int)) = (k : Int) := by have := HCNT.out; simp [IntKind.wrap, IntKind.bits, IntKind.signed]; omega
              clear hle2
              gi_wp2_with fail
              apply wpIn_calm
              gi_region_with_o (first
                | (refine ⟨trivial, ?_⟩; gi_at_call 14; refine (callsIn_wide.2 HLE2.out).mono ?_; rintro e w3 ⟨rfl, rfl⟩)
                | (refine ⟨trivial, ?_⟩; gi_at_call 12; refine (callsIn_wide.2 (ps.works_any _)).mono ?_; rintro e w5 ⟨rfl, hb5⟩; have hr5 := (show Boxed W.drew w.heap.size 4 (.bool false) from hr0).below hb5 (Go.Boxed.lt hr0); have hrc5 := Go.Boxed.cell hr5; have hrf5 := Go.Boxed.frozen hr5))
              all_goals
                refine calm_normal ?_
                gi_wp2
                exact ends_true rfl hr5 rfl ((hb5.block D (Array.getElem?_eq_some_iff.1 hK).1).trans hK) (by omega) (by omega) (by omega) (hB.drew.trans (hb5.mono hB.size))
            case hstop =>
              rintro D c ys W hD hpre ⟨rfl, hno⟩
              exact absurd hpre hno
          · have hle := len_any _ v 300 xs _ HP.out
            obtain ⟨q, hq⟩ : ∃ q, q = xs.length := ⟨_, rfl⟩
            rw [← hq] at hle hq0 hcnt
            have hle2 : Calls Try.prog 14 #[.pointer (some ⟨w1.heap.size, 0, none⟩)] wr.drew fun e w' => e = .returned (.int .i64 (q : Int)) ∧ wr.drew = w' := by
              rw [hq]; exact len_any _ v 300 xs _ (HP.out.drewN 1)
            have HLE := Lib.hid hle
            have HLE2 := Lib.hid hle2
            have hq1 : ((q : Int) == 0) = false := by simp; omega
            have hq2 : ¬ (q : Int) = 0 := by omega
            have HQL := Lib.hid hq
            obtain ⟨kk, hkq, hix⟩ := place_of pl q (by omega) (by omega)
            obtain ⟨x, hx⟩ : ∃ x, xs[kk]? = some x := ⟨_, List.getElem?_eq_getElem (by omega)⟩
            obtain ⟨hap2, hxt⟩ := HAP.out.take hx
            have htk : Calls Try.prog 9 #[.pointer (some ⟨w1.heap.size, 0, none⟩), .int .i64 ((IntKind.i64.wrap (pl.tmod (q : Int) + (q : Int))).tmod (q : Int))] wr.drew fun e w' => e = .returned (.tuple #[.int .i64 x, .int .i64 0]) ∧ ∃ v', IPool w' w1.heap.size v' 300 (xs.eraseIdx kk) ∧ Turn wr.drew w' w1.heap.size v v' := by
              rw [hix]; exact take_in _ v 300 xs kk x _ (HP.out.drewN 1) hx (by omega)
            have HTK := Lib.hid htk
            have HAP2 := Lib.hid hap2
            have HXT := Lib.hid hxt
            clear hle hle2 hq hix hx htk hap2 hxt hkq
            gi_wp2_with (refine ⟨trivial, ?_⟩; gi_at_call 14; refine (callsIn_wide.2 HLE.out).mono ?_; rintro e w3 ⟨rfl, rfl⟩)
            apply wpIn_calm
            gi_region_with_o (first
              | (refine ⟨trivial, ?_⟩; gi_at_call 14; refine (callsIn_wide.2 HLE2.out).mono ?_; rintro e w3 ⟨rfl, rfl⟩)
              | (refine ⟨trivial, ?_⟩; gi_at_call 9; refine (callsIn_wide.2 HTK.out).mono ?_; rintro e w3 ⟨rfl, v3, hp3, ht3⟩; have HP3 := Lib.hid hp3; have HT3 := Lib.hid ht3; clear hp3 ht3))
            all_goals
              refine calm_normal ?_
              have hTw : T0 < wr.heap.size := Go.Boxed.lt HTB.out
              have hne3 : some w1.heap.size ≠ tv.ownBlock := fun e => by have := HTO.out _ e.symm; omega
              have htb3 := (show Boxed wr.drew T0 39 tv from HTB.out).turn HT3.out (by omega) HNE.out
              have hrb3 := (show Boxed wr.drew w.heap.size 4 (.bool false) from HRB.out).turn HT3.out (by omega) (fun e => by have := HVO.out _ e.symm; omega)
              have hsl3 : Sl w3 3 tv (ts.map I) := HT3.out.sl (HSL.out.of_block (fun _ _ => rfl)) hne3 HDIS.out
              have hne4 : some T0 ≠ v3.ownBlock := HT3.out.next.ne hTw HNE.out
              have hdis4 : tv.ownBlock = none ∨ tv.ownBlock ≠ v3.ownBlock := by
                cases h : tv.ownBlock with
                | none => exact .inl rfl
                | some g =>
                  refine .inr (HT3.out.next.ne (HSL.out.lt g h) ?_)
                  rcases HDIS.out with e | e
                  · rw [e] at h; cases h
                  · rw [h] at e; exact e
              obtain ⟨hb3, hvo3⟩ := Turn.on (HBB.out.drew) HT3.out hbs (by omega) (fun j hj => by have := HVO.out j hj; omega)
              have hvo3' := HT3.out.next.ge (B := w1.heap.size) (show w1.heap.size ≤ wr.heap.size by omega) HVO.out
              have hc3 := Go.Boxed.cell htb3
              have hf3 := Go.Boxed.frozen htb3
              obtain ⟨adt, nt, capt, htv⟩ := hsl3.form2
              subst htv
              have HC4 := Lib.hid (contains_not ts _ x w3 hsl3 (by omega) HXT.out)
              have HA4 : Hid ((ts.map I).length + 1 ≤ 65536) := Lib.hid (by simp; omega)
              have H3 := Lib.hid hsl3
              clear hsl3
              gi_wp2_with (first
                | (refine ⟨trivial, ?_⟩; gi_at_call 26; refine (callsIn_wide.2 HC4.out).mono ?_; rintro e w' ⟨rfl, rfl⟩)
                | (gi_at_builtin; go_loud (refine wpListIn_append_sl rfl _ _ 39 39 rfl 3 i0 (.int .i64 0) 8 Try.underlying39 hi hz0 hz1 hz2 rfl _ (ts.map I) rfl (H3.out.of_block (fun g hg => Below.heap_alloc _ _ _ (H3.out.lt g hg))) 1 [I x] (src_one _ _ _ Try.underlying39 rfl) (by have := HA4.out; unfold maxLen; omega) (by have := HA4.out; omega) ?_; intro v4 w4 hsl4 hgr4 hnx4; obtain ⟨⟨hc4, hf4⟩, q1, q2, q3, q4, q5, q6, q7⟩ := collected htb3 hrb3 HP3.out H3.out hsl4 hgr4 hnx4 (by omega) (by omega) (fun e => by have := HTO.out _ e.symm; omega) (fun e => by have := HTO.out _ e.symm; omega) hne3 hne4 hdis4 hb3 (by omega) (by have := hb3.size; omega) (fun j hj => by have := HTO.out j hj; omega)); obtain ⟨ad4, n4, cap4, rfl⟩ := hsl4.form2))
              go_roundw
              case rel =>
                refine ⟨j + 1, v3, _, xs.eraseIdx kk, ts ++ [x], by omega, by go_num, q1, q2, q3, ?_, q5, HAP2.out, hvo3', hne4, fun i hi => ?_, q6⟩
                · rw [show (ts ++ [x]).map I = ts.map I ++ [I x] by simp]; exact q4
                · rcases q7 i hi with h | h
                  · exact HTO.out i h
                  · have := Go.Boxed.lt htb3; omega
              case measure => simp [intOf]; omega
        · have hjn : j = lenO := by omega
          subst hjn
          gi_wp2_with (refine ⟨trivial, ?_⟩; gi_at_call 22; refine (all_in _ _ _).mono ?_; rintro e w' ⟨rfl, rfl⟩)
          have bn := Boxed.new wr 3 (.int .i64 (-1))
          have bp := Boxed.new (wr.alloc (.cells #[.int .i64 (-1)] 3)) 22 (.pointer (some ⟨w1.heap.size, 0, none⟩))
          rw [World.size_alloc] at bp
          have bn' := bn.alloc (.cells #[.pointer (some ⟨w1.heap.size, 0, none⟩)] 22)
          have hK0 : Below wr.heap.size wr ((wr.alloc (.cells #[.int .i64 (-1)] 3)).alloc (.cells #[.pointer (some ⟨w1.heap.size, 0, none⟩)] 22)) := ((Below.refl _ _).alloc (Nat.le_refl _) _).alloc (by simp) _
          obtain ⟨W0, hW0⟩ : ∃ W0, W0 = ((wr.alloc (.cells #[.int .i64 (-1)] 3)).alloc (.cells #[.pointer (some ⟨w1.heap.size, 0, none⟩)] 22)) := ⟨_, rfl⟩
          have hs0 : W0.heap.size = wr.heap.size + 2 := by rw [hW0]; simp
          rw [← hW0] at bp bn' hK0 ⊢
          have hpW : IPool W0 w1.heap.size v 300 xs := HP.out.of_block (hK0.block _ HP.out.lt) (fun g hg => hK0.block g (HP.out.sl.lt g hg))
          have hrW := HRB.out.below hK0 (Go.Boxed.lt HRB.out)
          have htW := HTB.out.below hK0 (Go.Boxed.lt HTB.out)
          have hsW : Sl W0 3 tv (ts.map I) := HSL.out.of_block (fun g hg => hK0.block g (HSL.out.lt g hg))
          have hvl : ∀ j, v.ownBlock = some j → j < wr.heap.size := HP.out.sl.lt
          have htl : ∀ j, tv.ownBlock = some j → j < wr.heap.size := HSL.out.lt
          have hB0 : Below w.heap.size w W0 := HBB.out.trans (hK0.mono HBB.out.size)
          have hTw : T0 < wr.heap.size := Go.Boxed.lt HTB.out
          have hbw := HP.out.lt
          obtain ⟨adt, capt, htv⟩ := HSL.out.form
          rw [List.length_map] at htv
          obtain ⟨q, hq⟩ : ∃ q, q = xs.length := ⟨_, rfl⟩
          obtain ⟨tq, htq⟩ : ∃ q, q = ts.length := ⟨_, rfl⟩
          rw [← htq] at htv
          rw [← hq, ← htq] at hcnt
          have HQL := Lib.hid hq
          have HTQ := Lib.hid htq
          have HCNT := Lib.hid hcnt
          subst htv
          have hq300 : q ≤ 300 := by omega
          have htq300 : tq ≤ 300 := by omega
          clear bn hW0 hq htq hcnt
          apply wpIn_rangeFunc_ownF rfl (by omega) (gf := 32) (lb := #[.pointer (some ⟨wr.heap.size + 1, 0, none⟩)]) rfl trivial (enters_of Try.func32 (by kernel_rfl) rfl)
            (fin_stops (5 - 1) (by omega) (wr.heap.size + 1) w1.heap.size v 300 q xs HQL.out W0 hpW (by omega) bp.cell) (fun {A B C} => Same.trans) (Same.put (fun j hj => by have := hvl j hj; omega)) (Below.refl _ _) (fun _ => rfl)
            (fun pre W => (Boxed W w.heap.size 4 (.bool false) ∧ Boxed W T0 39 (.slice adt tq capt) ∧ Sl W 3 (.slice adt tq capt) (ts.map I) ∧ IPool W w1.heap.size v 300 xs ∧ Boxed W wr.heap.size 3 (.int .i64 (lastv xs pre))) ∧ Below w.heap.size w W)
            (fun c ys W => c = .ret ∧ ¬ ys <+: List.finRange q)
            (OwnFrom.and (Own.from (fun s A B row hs hg hr => ⟨boxed_own hs.1 hg hr, boxed_own hs.2.1 hg hr, Sl.own hs.2.2.1 hg hr, Pool.own' hs.2.2.2.1 hg hr, boxed_own hs.2.2.2.2 hg hr⟩) _) (ownFrom_below (Nat.le_refl _) (by omega)))
            (fun c' _ _ _ _ hs _ _ => hs)
            ⟨⟨hrW, htW, hsW, hpW, bn'⟩, hB0⟩
          case hassign =>
            intro l x W K hK
            have HK := Lib.hid hK
            clear hK
            unfold encF
            gi_wp2
            exact HK.out
          case hbody =>
            rintro l pre ⟨i, hi'⟩ W ⟨⟨hr0, ht0, hs0', hp0, hl0⟩, hB⟩ hlt
            obtain ⟨y, hy⟩ : ∃ y, xs[i]? = some y := ⟨_, List.getElem?_eq_getElem (by have := HQL.out; omega)⟩
            have hg : xs[i]?.getD 0 = y := by rw [hy]; rfl
            have hgd : xs.getD i 0 = y := by rw [List.getD_eq_getElem?_getD]; exact hg
            have hym : y ∈ xs := List.mem_of_getElem? hy
            have hyt : y ∉ ts := fun h => HAP.out.no y h hym
            have HC := Lib.hid (contains_not ts _ y W hs0' (by have := HTQ.out; have := HCNT.out; omega) hyt)
            have HLS := Lib.hid (lastv_snoc xs pre ⟨i, hi'⟩)
            have HGD := Lib.hid hgd
            have hlc := Go.Boxed.cell hl0
            have hlf := Go.Boxed.frozen hl0
            have htc := Go.Boxed.cell ht0
            have hrc := Go.Boxed.cell hr0
            have hrf := Go.Boxed.frozen hr0
            have hs' := hB.size
            have hl2 := Go.Boxed.set (.int .i64 y) hl0
            have hB2 := hB.setCell (p := ⟨wr.heap.size, 0, none⟩) (by simp; omega) (.int .i64 y)
            have ne : ∀ {k : Nat}, k < wr.heap.size → (W.setCell ⟨wr.heap.size, 0, none⟩ (.int .i64 y)).heap[k]? = W.heap[k]? := fun h => Below.heap_setCell _ _ _ _ (show _ ≠ wr.heap.size by omega)
            have hr2 : Boxed (W.setCell ⟨wr.heap.size, 0, none⟩ (.int .i64 y)) w.heap.size 4 (.bool false) := (ne (by omega)).trans hr0
            have ht2 : Boxed (W.setCell ⟨wr.heap.size, 0, none⟩ (.int .i64 y)) T0 39 (.slice adt tq capt) := (ne hTw).trans ht0
            have hs2 : Sl (W.setCell ⟨wr.heap.size, 0, none⟩ (.int .i64 y)) 3 (.slice adt tq capt) (ts.map I) := hs0'.of_block fun g hg => ne (htl g hg)
            have hp2 : IPool (W.setCell ⟨wr.heap.size, 0, none⟩ (.int .i64 y)) w1.heap.size v 300 xs := hp0.of_block (ne hbw) fun g hg => ne (hvl g hg)
            have hsame : Same v W (W.setCell ⟨wr.heap.size, 0, none⟩ (.int .i64 y)) := fun j hj => ne (hvl j hj)
            have HRI := Lib.hid (rising HAP.out HQL.out pre ⟨i, hi'⟩)
            obtain ⟨lv, hlv⟩ : ∃ lv, lv = lastv xs pre := ⟨_, rfl⟩
            rw [← hlv] at hlc HRI
            clear hy hgd hym hyt hlv ne
            by_cases hml : y ≤ lv
            · have hmb : y ≤ lv := hml
              have HML := Lib.hid hml
              clear hml
              gi_wp2_with (refine ⟨trivial, ?_⟩)
              exact ⟨KeepsOthers.setCell _ _ _, rfl, fun hpre => by have h1 := HRI.out hpre; have h2 := HGD.out; have h3 := HML.out; have h4 : lv < y := h2 ▸ h1; omega⟩
            · have hmb : decide (y ≤ lv) = false := by simp; omega
              clear hml
              gi_wp2_with (refine ⟨trivial, ?_⟩; gi_at_call 26; refine (CallsIn.inRound l (callsIn_wide.2 HC.out)).mono ?_; rintro e w' ⟨rfl, rfl⟩)
              exact ⟨KeepsOthers.setCell _ _ _, hsame, ⟨hr2, ht2, hs2, hp2, by rw [HLS.out]; exact HGD.out.symm ▸ hl2⟩, hB2⟩
          case hdone =>
            rintro D ys W hD rfl ⟨⟨hr0, ht0, hs0', hp0, hl0⟩, hB⟩ hK
            have htc := Go.Boxed.cell ht0
            have hrc := Go.Boxed.cell hr0
            have hrf := Go.Boxed.frozen hr0
            have hle2 : Calls Try.prog 14 #[.pointer (some ⟨w1.heap.size, 0, none⟩)] W.drew fun e w' => e = .returned (.int .i64 (q : Int)) ∧ W.drew = w' := by
              rw [HQL.out]; exact len_any _ v 300 xs _ (hp0.drewN 1)
            have HLE2 := Lib.hid hle2
            have heq : IntKind.i64.wrap ((q : Int) + (tq : Int)) = (k : Int) := by have := HCNT.out; simp [IntKind.wrap, IntKind.bits, IntKind.signed]; omega
            clear hle2
            gi_wp2_with fail
            apply wpIn_calm
            gi_region_with_o (first
              | (refine ⟨trivial, ?_⟩; gi_at_call 14; refine (callsIn_wide.2 HLE2.out).mono ?_; rintro e w3 ⟨rfl, rfl⟩)
              | (refine ⟨trivial, ?_⟩; gi_at_call 12; refine (callsIn_wide.2 (ps.works_any _)).mono ?_; rintro e w5 ⟨rfl, hb5⟩; have hr5 := (show Boxed W.drew w.heap.size 4 (.bool false) from hr0).below hb5 (Go.Boxed.lt hr0); have hrc5 := Go.Boxed.cell hr5; have hrf5 := Go.Boxed.frozen hr5))
            all_goals
              refine calm_normal ?_
              gi_wp2
              exact ends_true rfl hr5 rfl ((hb5.block D (Array.getElem?_eq_some_iff.1 hK).1).trans hK) (by omega) (by omega) (by omega) (hB.drew.trans (hb5.mono hB.size))
          case hstop =>
            rintro D c ys W hD hpre ⟨rfl, hno⟩
            exact absurd hpre hno
end Go.Proofs.Ytkamafkajfajpaa.pp
