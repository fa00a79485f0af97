/-
  Who goes over a cache is told its lines, set by set, way by way, until a round says 'no more': contracts. No condition but the bounds that each theorem names.
-/
import Derived.Test.YtjbapfjeildfoaaDoorC10
import Derived.RangeFuncBox
import Derived.RangeFuncLeaves
import Derived.RangeFuncBound
import Derived.RangeFuncCalls
import Derived.OwnWalkIn
import Derived.TacticsInMore
import Derived.LoopNIn
import Derived.LoopIn
namespace Go.Proofs.YtjbapfjeildfoaaDoor.kk
open Go Go.RowKit Go.Shelf
set_option linter.unusedVariables false
attribute [local go_sem] Oper.semAt_some

def live (l : Ln) : Bool := l.s != 0
/-- The lines, in their order; those of the first i sets. -/
def told (ss : List St) : List Ln := ss.flatMap fun p => p.1.filter live
def toldTo (ss : List St) (i : Nat) : List Ln := told (ss.take i)
theorem toldTo_zero (ss : List St) : toldTo ss 0 = [] := by simp [toldTo, told]
theorem toldTo_all (ss : List St) (i : Nat) (h : ss.length ≤ i) : toldTo ss i = told ss := by rw [toldTo, List.take_of_length_le h]
theorem toldTo_succ (ss : List St) (i : Nat) (p : St) (h : ss[i]? = some p) : toldTo ss (i + 1) = toldTo ss i ++ p.1.filter live := by
  rw [toldTo, List.take_add_one, h]; simp [told, toldTo]
theorem filt_succ (ls : List Ln) (j : Nat) (l : Ln) (h : ls[j]? = some l) : (ls.take (j + 1)).filter live = (ls.take j).filter live ++ (if live l = true then [l] else []) := by
  rw [List.take_add_one, h, List.filter_append]
  cases hl : live l <;> simp [hl]
theorem filt_pre (ls : List Ln) (j : Nat) : (ls.take j).filter live <+: ls.filter live := by
  obtain ⟨t, ht⟩ := List.take_prefix j ls
  exact ⟨t.filter live, by rw [← List.filter_append, ht]⟩
theorem told_pre (ss : List St) (i : Nat) : toldTo ss i <+: told ss := by
  obtain ⟨t, ht⟩ := List.take_prefix i ss
  exact ⟨told t, by rw [toldTo, told, told, ← List.flatMap_append, ht]; rfl⟩
/-- What was told ahead of the way j of the set i. -/
def told2 (ss : List St) (i j : Nat) (ls : List Ln) : List Ln := toldTo ss i ++ (ls.take j).filter live
theorem told2_at (ss : List St) (i j : Nat) (p : St) (l : Ln) (hp : ss[i]? = some p) (hl : p.1[j]? = some l) (hv : live l = true) : (told ss)[(told2 ss i j p.1).length]? = some l := by
  have h1 : told2 ss i j p.1 ++ [l] <+: told ss := by
    refine List.IsPrefix.trans ?_ (told_pre ss (i + 1))
    rw [toldTo_succ ss i p hp, told2, List.append_assoc]
    have := filt_pre p.1 (j + 1)
    rw [filt_succ p.1 j l hl, if_pos hv] at this
    exact (List.prefix_append_right_inj _).2 this
  rw [List.prefix_iff_getElem?] at h1
  have := h1 (told2 ss i j p.1).length (by simp)
  rw [List.getElem_append_right (Nat.le_refl _)] at this
  simpa using this

/-- The cache's blocks are as they were. -/
def SameK (K : Loc) (A B : World) : Prop := ∀ k, K.any k → B.heap[k]? = A.heap[k]?
theorem SameK.refl (K : Loc) (A : World) : SameK K A A := fun _ _ => rfl
theorem SameK.trans {K : Loc} {A B C : World} (h : SameK K A B) (k : SameK K B C) : SameK K A C := fun i hi => (k i hi).trans (h i hi)
theorem SameK.put {K : Loc} {w : World} (hv : ∀ k, K.any k → k < w.heap.size) (W : World) (l : Nat) (o o' : Obj) (hl : w.heap.size ≤ l) (h : W.heap[l]? = some o) (_ : o.isCells = false) (_ : o.isWalk = false) : SameK K W (W.putObj l o') :=
  fun k hk => World.putObj_heap_other (by have := hv k hk; omega)
theorem SameK.of {K : Loc} {A B : World} (hv : ∀ k, K.any k → k < A.heap.size) (h : A.grownBy B none) : SameK K A B := fun k hk => h.block k (hv k hk) (by simp)

section
variable {F : Fence} {n : Nat} {w : World} {ops : Array Oper} {rest : List Oper} {a : Act} {Q : Exit → Act → World → Prop} {dst : Option Tmp} {ty : TypeId} {pos : String} {after : Array Edge}
theorem load_lnI (l : Ln) (x : Tmp) (g o : Nat) (hx : a.eval (.tmp x) = .pointer (some ⟨g, o, none⟩)) (hg : w.rangeAt g o (ln l))
    (h : wpListIn F n Tryd.prog ops Q rest (a.put dst (.agg (la l))) w) : wpListIn F n Tryd.prog ops Q (⟨dst, .load 36 (.tmp x), ty, pos, after, none⟩ :: rest) a w := by
  refine wpListIn_plain rfl fun K hK' => ?_
  have hrun := run_loadAt_mid (P := Tryd.prog) w g o 36 (ln l) _ hg Tryd.underlying36 rfl (info36' l)
  unfold Oper.wpIn
  refine ⟨?_, ?_⟩
  · intro f hf; simp [Oper.about] at hf
  · rw [Oper.semAt_plain F _ _ (by intro c hc'; cases hc')]
    simp only [execOp, hx, Sem.run_bind, hrun, Result.andThen_ok, Sem.run_pure]
    exact hK' _ _ h
theorem store_newI (l : Ln) (x y : Tmp) (hx : a.eval (.tmp x) = .pointer (some ⟨w.heap.size, 0, none⟩)) (hy : a.eval (.tmp y) = .agg (la l))
    (h : wpListIn F n Tryd.prog ops Q rest (a.put dst undef) (w.alloc (.cells (la l) 36))) : wpListIn F n Tryd.prog ops Q (⟨dst, .store 36 (.tmp x) (.tmp y), ty, pos, after, none⟩ :: rest) a (w.alloc (.cells #[.int .i64 0, .int .u8 0, .int .u32 0, .int .u32 0, .int .u32 0, .int .u32 0, .int .u32 0, .int .u32 0, .int .u32 0, .int .u32 0, .int .u32 0, .int .u32 0, .int .u32 0, .int .u32 0, .int .u32 0, .int .u32 0, .int .u32 0, .int .u32 0] 36)) := by
  refine wpListIn_plain rfl fun K hK' => ?_
  have hrun := run_storeAt_new (P := Tryd.prog) w 36 (la zl) (la l) (info36a l) (by rw [la_size, la_size]) (la_one l)
  unfold Oper.wpIn
  refine ⟨?_, ?_⟩
  · intro f hf; simp [Oper.about] at hf
  · rw [Oper.semAt_plain F _ _ (by intro c hc'; cases hc')]
    have e : (w.alloc (.cells #[.int .i64 0, .int .u8 0, .int .u32 0, .int .u32 0, .int .u32 0, .int .u32 0, .int .u32 0, .int .u32 0, .int .u32 0, .int .u32 0, .int .u32 0, .int .u32 0, .int .u32 0, .int .u32 0, .int .u32 0, .int .u32 0, .int .u32 0, .int .u32 0] 36)) = w.alloc (.cells (la zl) 36) := rfl
    rw [e]
    simp only [execOp, hx, hy, Sem.run_bind, hrun, Result.andThen_ok, Sem.run_pure]
    exact hK' _ _ h
end

theorem fins_at (q k : Nat) (h : k < q) : (List.finRange q)[k]? = some ⟨k, h⟩ := by
  rw [List.getElem?_eq_getElem (by simpa using h)]; simp
theorem fins_take (q k : Nat) (h : k < q) : (List.finRange q).take (k + 1) = (List.finRange q).take k ++ [⟨k, h⟩] := by
  rw [List.take_add_one, fins_at q k h]; rfl
/-- What the round number x is told. -/
def encL (ss : List St) {q : Nat} (x : Fin q) : Array Value := #[.agg (la ((told ss).getD x.val zl))]

theorem told2_zero (ss : List St) (i : Nat) (ls : List Ln) : told2 ss i 0 ls = toldTo ss i := by simp [told2]
theorem told2_all (ss : List St) (i j : Nat) (p : St) (hp : ss[i]? = some p) (hj : p.1.length ≤ j) : told2 ss i j p.1 = toldTo ss (i + 1) := by
  rw [toldTo_succ ss i p hp, told2, List.take_of_length_le hj]
theorem told2_live (ss : List St) (i j : Nat) (ls : List Ln) (l : Ln) (hl : ls[j]? = some l) (hv : live l = true) : (told2 ss i (j + 1) ls).length = (told2 ss i j ls).length + 1 := by
  rw [told2, filt_succ ls j l hl, if_pos hv, ← List.append_assoc, List.length_append]; rfl
theorem told2_dead (ss : List St) (i j : Nat) (ls : List Ln) (l : Ln) (hl : ls[j]? = some l) (hv : live l = false) : told2 ss i (j + 1) ls = told2 ss i j ls := by
  rw [told2, filt_succ ls j l hl, if_neg (by simp [hv]), List.append_nil]; rfl

theorem wide_fn (f : FuncId) : Fence.wide.fn f = True := rfl
attribute [local simp] wide_fn
set_option maxRecDepth 1000000 in
set_option maxHeartbeats 4000000 in
theorem all1_in (n : Nat) (hn : 1 ≤ n) (l0 Bn B0 : Nat) (K : Loc) (c : Cfg) (ss : List St) (q : Nat) (hq : q = (told ss).length) (J Jx : List (Fin q) → World → Prop) (hA : AbidesFrom B0 J)
    (hY : ∀ (pre : List (Fin q)) (x : Fin q) W, J pre W → pre.length < q → YieldAt Fence.wide (n - 1) Tryd.prog l0 (encL ss x) W fun e W' =>
      (e = .returned (.bool true) ∧ J (pre ++ [x]) W' ∧ SameK K W W') ∨ (e = .returned (.bool false) ∧ Jx (pre ++ [x]) W'))
    (W : World) (hBn : W.cell? ⟨Bn, 0, none⟩ = some (.pointer (some ⟨K.b, 0, none⟩))) (hC : Cac W K c ss) (h0 : J [] W) :
    CallsIn Fence.wide n Tryd.prog 46 #[.func (.yield l0) #[] #[], .pointer (some ⟨Bn, 0, none⟩)] W fun e W' => (∃ v, e = .returned v) ∧
      ((∃ ys, ys = List.finRange q ∧ J ys W') ∨ (∃ pre, pre <+: List.finRange q ∧ Jx pre W')) := by
  obtain ⟨S, hS⟩ : ∃ S, S = ss.length := ⟨_, rfl⟩
  have c8 := hC.slice
  rw [← hS] at c8
  have hs16 : S ≤ 16 := by have := hC.len; have := hC.may.sets; omega
  have HSS := Lib.hid hS
  have HC := Lib.hid hC
  have HQ := Lib.hid hq
  have HJ : Hid (∀ s W W', J s W → W.grownBy W' none → J s W') := Lib.hid fun s W W' h1 h2 => hA s W W' none h1 h2 (fun r e => by cases e)
  have HYY := Lib.hid hY
  obtain ⟨t, nn, HT, hagg, hsize, hld, hsz, hst⟩ := named2
  have HLD := Lib.hid hld
  clear hq hC hS hA hY hld hsz hst
  refine callsIn_of_wp Tryd.func46 rfl trivial ?_ rfl
  rw [HT.out.1]
  simp only [Tryd.ntmps46, List.size_toArray, List.length_cons, List.length_nil, Nat.reduceAdd, Nat.reduceSub, Array.replicate_succ, Array.replicate_zero, List.push_toArray, List.append_toArray, List.nil_append, List.cons_append]
  gi_wp2
  gi_loopw [14] (fun i wr => ∃ (k : Nat), k ≤ S ∧ i = .int .i64 (k : Int) ∧ SameK K W wr ∧ J ((List.finRange q).take (toldTo ss k).length) wr)
    (fun i _ => S - (intOf i).toNat)
  case atStart =>
    exact ⟨0, Nat.zero_le _, rfl, SameK.refl _ _, by rw [toldTo_zero]; exact h0⟩
  case round =>
    obtain ⟨k, hk, rfl, hsk, hj⟩ := hrel
    have HCr := Lib.hid (HC.out.same hsk)
    have HSK := Lib.hid hsk
    by_cases hlt : k < S
    · obtain ⟨p, hp⟩ : ∃ p, ss[k]? = some p := ⟨_, List.getElem?_eq_getElem (by have := HSS.out; omega)⟩
      obtain ⟨g, hg, hse⟩ := HCr.out.seen hp
      have c1 := hse.sl
      have c2 := HCr.out.mem k p hp
      have hw4 := HC.out.wid4 (List.mem_of_getElem? hp)
      obtain ⟨N, hN⟩ : ∃ N, N = p.1.length := ⟨_, rfl⟩
      have HP := Lib.hid hp
      have HG := Lib.hid hg
      have HNL := Lib.hid hN
      rw [← hN] at c1 hw4
      obtain ⟨w2, hw2⟩ : ∃ w2, w2 = wr.alloc (.cells #[.slice (some ⟨g.1, 0, none⟩) N g.2, .int .u8 (p.2 : Int)] 69) := ⟨_, rfl⟩
      have HG2 : Hid (wr.grownBy w2 none) := Lib.hid (hw2 ▸ grown_alloc (grown_refl _ _) _)
      have HW2 : Hid (wr.alloc (.cells #[.slice (some ⟨g.1, 0, none⟩) N g.2, .int .u8 (p.2 : Int)] 69) = w2) := Lib.hid hw2.symm
      have HSK2 := Lib.hid (hsk.trans (SameK.of (fun k hk => HCr.out.lt hk) HG2.out))
      have HJ2 := Lib.hid (HJ.out _ _ _ hj HG2.out)
      clear hsk hj hp hg hse hN hw2
      gi_wp2
      rw [HW2.out]
      gi_loopw [21] (fun i wr => ∃ (j : Nat), j ≤ N ∧ i = .int .i64 (j : Int) ∧ SameK K W wr ∧ J ((List.finRange q).take (told2 ss k j p.1).length) wr)
        (fun i _ => N - (intOf i).toNat)
      case atStart => exact ⟨0, Nat.zero_le _, rfl, HSK2.out, by rw [told2_zero]; exact HJ2.out⟩
      case round =>
        obtain ⟨j, hj, rfl, hsx, hjx⟩ := hrel
        have HCx := Lib.hid (HC.out.same hsx)
        by_cases hltj : j < N
        · obtain ⟨l, hl⟩ : ∃ l, p.1[j]? = some l := ⟨_, List.getElem?_eq_getElem (by have := HNL.out; omega)⟩
          have hr := (HCx.out.rows k p g HP.out HG.out).at_ j l hl
          have hl1 := HLD.out g.1 (j * 18) l wr hr
          obtain ⟨b0, b1⟩ := box_ln wr l
          have hl2 := HLD.out wr.heap.size 0 l (wr.alloc (.cells (la l) 36)) (range_of (heap_alloc_new _ _))
          have hg3 : wr.grownBy (wr.alloc (.cells (la l) 36)) none := grown_alloc (grown_refl _ _) _
          have HSK3 := Lib.hid (hsx.trans (SameK.of (fun k hk => HCx.out.lt hk) hg3))
          have HJ3 := Lib.hid (HJ.out _ _ _ hjx hg3)
          have HL := Lib.hid hl
          clear hr hg3 hsx hjx
          by_cases hv : l.s = 0
          · have hlv : live l = false := by simp [live, hv]
            have e1 : (l.s != 0) = false := by simp [hv]
            have HD := Lib.hid (told2_dead ss k j p.1 l hl hlv)
            clear hl hv hlv
            gi_wp2_with (first
              | ((with_reducible refine store_newI l 6 24 ?_ ?_ ?_); (rfl); (rfl)))
            go_roundw
            case rel => exact ⟨j + 1, by omega, by go_num, HSK3.out, by rw [HD.out]; exact HJ3.out⟩
            case measure => simp [intOf]; omega
          · have hlv : live l = true := by simp [live, hv]
            have e1 : (l.s != 0) = true := by simp [hv]
            have HD := Lib.hid (told2_live ss k j p.1 l hl hlv)
            have hat := told2_at ss k j p l HP.out hl hlv
            have hlen : (told2 ss k j p.1).length < q := by rw [HQ.out]; exact (List.getElem?_eq_some_iff.1 hat).1
            obtain ⟨m, hm⟩ : ∃ m, m = (told2 ss k j p.1).length := ⟨_, rfl⟩
            rw [← hm] at hlen hat HD HJ3
            obtain ⟨fn, tmps, assign, body, hy, hR⟩ := HYY.out ((List.finRange q).take m) ⟨m, hlen⟩ _ HJ3.out (by simp; omega)
            have HTK := Lib.hid (fins_take q m hlen)
            have he : (told ss).getD m zl = l := by rw [List.getD_eq_getElem?_getD, hat]; rfl
            unfold encL at hy
            rw [show (told ss).getD (Fin.val ⟨m, hlen⟩) zl = l from he] at hy
            clear hl hv hlv hat hm he
            gi_wp2_with (first
              | ((with_reducible refine store_newI l 6 24 ?_ ?_ ?_); (rfl); (rfl)))
            refine hR.mono ?_
            rintro e W3 (⟨rfl, hJ3, hk3⟩ | ⟨rfl, hJx3⟩)
            · have HS4 := Lib.hid (HSK3.out.trans hk3)
              gi_wp2
              go_roundw
              case rel => exact ⟨j + 1, by omega, by go_num, HS4.out, by rw [HD.out, HTK.out]; exact hJ3⟩
              case measure => simp [intOf]; omega
            · gi_wp2
              refine bodyPost_ret (results_none rfl _ _ _) rfl ?_
              exact ⟨⟨_, rfl⟩, .inr ⟨_, by rw [← HTK.out]; exact List.take_prefix _ _, hJx3⟩⟩
        · have hjn : j = N := by omega
          subst hjn
          have HE := Lib.hid (told2_all ss k j p HP.out (by have := HNL.out; omega))
          gi_wp2
          go_roundw
          case rel => exact ⟨k + 1, by omega, by go_num, hsx, by rw [← HE.out]; exact hjx⟩
          case measure => simp [intOf]; omega
    · have hkn : k = S := by omega
      subst hkn
      have HE := Lib.hid (toldTo_all ss k (by have := HSS.out; omega))
      gi_wp2
      go_end0
      exact ⟨⟨_, rfl⟩, .inl ⟨_, rfl, by rw [HE.out, ← HQ.out, List.take_of_length_le (by simp)] at hj; exact hj⟩⟩
end Go.Proofs.YtjbapfjeildfoaaDoor.kk
