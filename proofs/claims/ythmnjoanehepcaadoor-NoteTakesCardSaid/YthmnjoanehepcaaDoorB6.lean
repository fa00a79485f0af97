/-
  What Put answers: contract. Condition: the table of kinds lies in its variable as the program's text has it; the bounds that the theorem names.
-/
import Derived.Test.YthmnjoanehepcaaDoorB5
import Derived.Test.YthmnjoanehepcaaDoorA5
import Derived.Laws.MakeOwn
namespace Go.Proofs.YthmnjoanehepcaaDoor.nn
open Go Go.ChangeShapes Go.WideShapes Go.ChangeAt Go.RowKit
set_option linter.unusedVariables false

/-- State, Has and Stick in one number. -/
def flg (n : Nt) : Int := 4 * n.s + (if n.h then 2 else 0) + (if n.q then 1 else 0)
/-- The data's bytes, of the first i words. -/
def datb (d : List Int) (i : Nat) : List UInt8 := (d.take i).flatMap fun x => lowb x.toNat 4
theorem datb_succ (d : List Int) (i : Nat) (x : Int) (h : d[i]? = some x) : datb d (i + 1) = datb d i ++ lowb x.toNat 4 := by
  unfold datb
  rw [List.take_add_one, h]
  simp
def head3 (n : Nt) : List UInt8 := [byt n.k.toNat 0, byt (n.f + 1).toNat 0, byt (n.t + 1).toNat 0]
def headb (n : Nt) : List UInt8 := head3 n ++ lowb n.b.toNat 2 ++ lowb n.st.toNat 8 ++ [byt (flg n).toNat 0]
/-- A note's bytes. -/
def putb (n : Nt) : List UInt8 := headb n ++ datb n.d 16
theorem headb_len (n : Nt) : (headb n).length = 14 := by simp [headb, head3, lowb_len]
theorem datb_len (d : List Int) (i : Nat) (h : i ≤ d.length) : (datb d i).length = 4 * i := by
  induction i with
  | zero => simp [datb]
  | succ i ih =>
    obtain ⟨x, hx⟩ : ∃ x, d[i]? = some x := ⟨_, List.getElem?_eq_getElem (by omega)⟩
    rw [datb_succ d i x hx, List.length_append, ih (by omega), lowb_len]; omega
structure Nt.Fit (n : Nt) : Prop where
  st : 0 ≤ n.st ∧ n.st < 18446744073709551616
  d : ∀ x ∈ n.d, 0 ≤ x ∧ x < 4294967296
theorem put_no (n : Nt) (w : World) (hT : Tab w) (h : ¬ n.ok) : Calls Tryd.prog 9 #[.agg (na n)] w fun e w' => e = .returned (.tuple #[S [], .int .i64 2]) ∧ w.grownBy w' none := by
  have hg := grown_alloc (grown_refl w none) (.cells (na n) 31)
  have HM := Lib.hid (may_any n _ (hT.grown hg))
  rw [yes_not h] at HM
  have HG := Lib.hid hg
  have HR := Lib.hid (range_of (heap_alloc_new w (.cells (na n) 31)))
  clear hT h hg
  go_enter Tryd.func9, Tryd.ntmps9
  go_wp2_with (first
    | ((with_reducible refine load_nt n 1 w.heap.size ?_ HR.out ?_); (rfl))
    | (go_at_call 14; ((with_reducible refine HM.out.mono ?_); rintro e w1 ⟨rfl, hg1⟩; have HG1 := Lib.hid hg1; clear hg1)))
  go_ret2
  exact ⟨rfl, grown_trans HG.out HG1.out⟩

/-- What a note that may be is bounded by. -/
structure Nt.Bd (n : Nt) : Prop where
  k : 1 ≤ n.k ∧ n.k ≤ 11
  f : -1 ≤ n.f ∧ n.f ≤ 15
  t : -1 ≤ n.t ∧ n.t ≤ 15
  b : 0 ≤ n.b ∧ n.b ≤ 255
  s : 0 ≤ n.s ∧ n.s ≤ 3
theorem Nt.ok.bd {n : Nt} (h : n.ok) : n.Bd := by
  have hr := (rule_ok n h.1 h.2.1).1 h
  have hb := h.2.1
  have ha := hr.at_
  have hc := hr.core
  refine ⟨h.1, ?_, ?_, ⟨hb.1, by omega⟩, ?_⟩
  · cases hT : tH n.k <;> rw [hT] at ha hc <;> simp at ha hc <;> omega
  · cases hT : tH n.k <;> rw [hT] at ha hc <;> simp at ha hc <;> omega
  · by_cases h6 : n.k = 6
    · have := hr.s6 h6; omega
    · have := hr.s0 h6; omega
theorem mk78 : ∃ C : Array Value, C.size = 78 ∧ ∀ w : World, (Instr.makeSlice 42 (.int .i64 0) (.int .i64 78)).run Tryd.prog w = .ok (.slice (some ⟨w.heap.size, 0, none⟩) 0 78) (w.alloc (.cells C 5)) := by
  obtain ⟨i0, hi, hz0, hz1, hz2⟩ := info_parts info5
  refine ⟨madeCells (Value.int .u8 0).cells 78, by simp [madeCells, Value.cells], fun w => ?_⟩
  have h := run_make (P := Tryd.prog) w 42 5 i0 (.int .u8 0) Tryd.underlying42 hi hz0 .i64 .i64 0 78 (by omega) (by omega) (by rw [hz2]; omega) (by omega)
  rw [hz1] at h
  exact h
theorem buf_new (w0 w : World) (C : Array Value) (hC : C.size = 78) (hg : w0.grownBy w none) : Buf w0 (w.alloc (.cells C 5)) (.slice (some ⟨w.heap.size, 0, none⟩) 0 78) [] :=
  ⟨.inr ⟨w.heap.size, 0, 78, C, rfl, heap_alloc_new _ _, by simp, by simp [maxLen], by omega, fun k x h => by simp at h⟩, grown_alloc hg _, fun k hk => by simp [Value.ownBlock] at hk; subst hk; exact hg.size⟩
theorem src_many {P : Program} {t : TypeId} (W : World) (xs : List Value) (o : TypeId) {e' : TypeId} (hk : P.underlying t = some (.slice e')) (h1 : ∀ u ∈ xs, u.oneCell' = true) : Src P 1 t (.slice (some ⟨W.heap.size, 0, none⟩) xs.length xs.length) xs.length xs (W.alloc (.cells xs.toArray o)) :=
  Src.ofSlice _ hk ⟨W.heap.size, 0, none⟩ xs.length xs.length xs (by rw [Nat.mul_one]) (fun j u hj => by
    rw [add_lit, Nat.zero_add, cell_of_row _ _ _ _ _ _ (heap_alloc_new _ _)]; simpa using hj) h1
theorem src_three {P : Program} {t : TypeId} (W : World) (b : Nat) (hb : W.heap.size = b) (x y z : Value) (o : TypeId) {e' : TypeId} (hk : P.underlying t = some (.slice e')) (h1 : x.oneCell' = true) (h2 : y.oneCell' = true) (h3 : z.oneCell' = true) : Src P 1 t (.slice (some ⟨b, 0, none⟩) 3 3) 3 [x, y, z] (W.alloc (.cells #[x, y, z] o)) := by
  subst hb
  exact src_many W [x, y, z] o hk (by simp [h1, h2, h3])

theorem putNumber_lit (w0 : World) (x : Int) (h0 : 0 ≤ x) (h1 : x < 18446744073709551616) (m : Nat) (hm : m ≤ 8) (mi : Int) (hmi : mi = (m : Int)) (bs : List UInt8) (hbs : bs.length ≤ 1000) (v : Value) (w : World) (hB : Buf w0 w v bs) : Calls Tryd.prog 19 #[v, .int .u64 x, .int .i64 mi] w fun e w' => ∃ v', e = .returned v' ∧ Buf w0 w' v' (bs ++ lowb x.toNat m) := by
  have h := putNumber_any w0 bs x.toNat m v hm (by omega) hbs w hB
  rw [show ((x.toNat : Nat) : Int) = x by omega, ← hmi] at h
  exact h
theorem flags_flg (n : Nt) (hs : 0 ≤ n.s ∧ n.s ≤ 3) (w : World) : Calls Tryd.prog 20 #[.agg (na n)] w fun e w' => e = .returned (.int .u8 (flg n)) ∧ w.grownBy w' none := flags_any n hs w
theorem flg_bd (n : Nt) (hs : 0 ≤ n.s ∧ n.s ≤ 3) : 0 ≤ flg n ∧ flg n < 256 := by
  unfold flg; constructor <;> split <;> split <;> omega
theorem bcell_int (x : Int) (h0 : 0 ≤ x) (h1 : x < 256) : bcell (byt x.toNat 0) = .int .u8 x := by
  rw [bcell, byt_nat]
  congr 1
  simp
  omega
theorem idx29 (x : List Int) (k : Nat) (y : Int) (hx : x.length = 16) (hy : x[k]? = some y) (w : World) : (Instr.index 29 (.agg (row x)) (.int .i64 (k : Int))).run Tryd.prog w = .ok (.int .u32 y) w := by
  have hk : k < 16 := by rw [← hx]; exact (List.getElem?_eq_some_iff.1 hy).1
  have hr : (row x)[k]? = some (.int .u32 y) := by simp [row, hy, U]
  simp [Instr.index, asIntOf, part, isAgg, run_underlying Tryd.underlying29, run_underlying Tryd.underlying27, Tryd.sizeOf27, hr, hk]
theorem conv_sl (w : World) (v : Value) (bs : List UInt8) (h : Sl w 5 v (bs.map bcell)) (hl : 0 < bs.length) : (convert 42 9 v).run Tryd.prog w = .ok (S bs) w := by
  rcases h with ⟨_, h⟩ | ⟨g, off, cap, cur, rfl, hb, h1, h2, h3, h4⟩
  · simp at h; subst h; simp at hl
  · rw [List.length_map]
    exact run_convert_bytes_back w 42 9 5 ⟨g, off, none⟩ cap bs Tryd.underlying42 Tryd.underlying5 Tryd.underlying9 (fun j hj => by
      rw [add_lit, cell_of_row _ _ _ _ _ _ hb, h4 j (bcell bs[j]) (by simp [hj])]; rfl)
section
variable {w : World} {ops : Array Oper} {rest : List Oper} {a : Act} {Q : Exit → Act → World → Prop} {dst : Option Tmp} {ty : TypeId} {pos : String} {after : Array Edge}
theorem info29 (d : List Int) (hd : d.length = 16) : (Tryd.prog.info? 29).map (·.size) = some (d.map U).length := by
  rw [List.length_map, hd]; kernel_rfl
/-- A note's data. -/
theorem load_d (n : Nt) (x : Tmp) (g : Nat) (hx : a.eval (.tmp x) = .pointer (some ⟨g, 8, none⟩)) (hg : w.rangeAt g 0 (nt n))
    (h : wpList Tryd.prog ops Q rest (a.put dst (.agg (row n.d))) w) : wpList Tryd.prog ops Q (⟨dst, .load 29 (.tmp x), ty, pos, after, none⟩ :: rest) a w :=
  wpList_load_mid rfl 29 (.tmp x) rfl g 8 hx (n.d.map U) _ (range_d hg) Tryd.underlying29 rfl (info29 n.d n.hd) h
end

set_option maxRecDepth 100000 in
set_option maxHeartbeats 2000000 in
theorem put_yes (n : Nt) (w : World) (hT : Tab w) (h : n.ok) (hF : n.Fit) : Calls Tryd.prog 9 #[.agg (na n)] w fun e w' => e = .returned (.tuple #[S (putb n), .int .i64 0]) ∧ w.grownBy w' none := by
  obtain ⟨wb, hwb⟩ : ∃ wb, wb = w.alloc (.cells (na n) 31) := ⟨_, rfl⟩
  have hg : w.grownBy wb none := hwb ▸ grown_alloc (grown_refl w none) (.cells (na n) 31)
  have HM := Lib.hid (may_any n _ (hT.grown hg))
  rw [yes_of h] at HM
  have HG := Lib.hid hg
  have HR : Hid (wb.rangeAt w.heap.size 0 (nt n)) := Lib.hid (hwb ▸ range_of (heap_alloc_new w (.cells (na n) 31)))
  obtain ⟨C, hC, hmk⟩ := mk78
  have HCS := Lib.hid hC
  obtain ⟨i0, hi, hz0, hz1, hz2⟩ := info_parts info5
  obtain ⟨⟨k1, k2⟩, ⟨f1, f2⟩, ⟨t1, t2⟩, ⟨b1, b2⟩, hs⟩ := h.bd
  have HFL := Lib.hid (flags_flg n hs)
  have HGC : Hid (bcell (byt (flg n).toNat 0) = .int .u8 (flg n)) := Lib.hid (bcell_int _ (flg_bd n hs).1 (flg_bd n hs).2)
  have HEB : Hid (headb n = head3 n ++ lowb n.b.toNat 2 ++ lowb n.st.toNat 8 ++ [byt (flg n).toNat 0]) := Lib.hid rfl
  generalize flg n = g at HFL HGC HEB
  have HH3 : Hid ((head3 n).map bcell = [.int .u8 n.k, .int .u8 (n.f + 1), .int .u8 (n.t + 1)]) := Lib.hid (by
    simp [head3, bcell_int n.k (by omega) (by omega), bcell_int (n.f + 1) (by omega) (by omega), bcell_int (n.t + 1) (by omega) (by omega)])
  have HP2 : Hid (∀ bs : List UInt8, bs.length ≤ 1000 → ∀ v w, Buf wb w v bs → _) := Lib.hid fun bs hb v w => putNumber_lit wb n.b (by omega) (by omega) 2 (by omega) 2 rfl bs hb v w
  have HP8 : Hid (∀ bs : List UInt8, bs.length ≤ 1000 → ∀ v w, Buf wb w v bs → _) := Lib.hid fun bs hb v w => putNumber_lit wb n.st hF.st.1 hF.st.2 8 (by omega) 8 rfl bs hb v w
  have HF := Lib.hid hF
  have HCL : Hid (∀ w', wb.grownBy w' none → w'.rangeAt w.heap.size 0 (nt n) ∧ w.heap.size < w'.heap.size) := Lib.hid fun w' hg' => ⟨range_grown HR.out hg' (by simp), by have := hg'.size; rw [hwb] at this; simp at this; omega⟩
  have HWB := Lib.hid hwb.symm
  have HL3 : Hid ((head3 n).length = 3) := Lib.hid rfl
  have HLH := Lib.hid (headb_len n)
  have HN16 := Lib.hid n.hd
  clear hwb hT h hg hC hs hF
  go_enter Tryd.func9, Tryd.ntmps9
  go_wp2_with (first
    | ((with_reducible refine load_nt n 1 w.heap.size ?_ (by rw [HWB.out]; exact HR.out) ?_); (rfl))
    | (go_at_call 14; (rw [HWB.out]; (with_reducible refine HM.out.mono ?_); rintro e w1 ⟨rfl, hg1⟩; have HB1 := Lib.hid (buf_new _ w1 C HCS.out hg1); have hr1 := (HCL.out _ hg1).1; have c0 := cell_at hr1 0 _ rfl; have c1 := cell_at hr1 1 _ rfl; have c2 := cell_at hr1 2 _ rfl; have hlt := (HCL.out _ hg1).2; have hne : ¬ w.heap.size = w1.heap.size := (by omega); clear hr1 hg1))
    | (at_builtin; refine wpList_append_sl rfl (.tmp 11) (.tmp 22) 42 42 rfl 5 i0 (.int .u8 0) 1 Tryd.underlying42 hi hz0 hz1 hz2 rfl _ [] rfl (HB1.out.more (grown_alloc (grown_refl _ _) _)).sl 3 ((head3 n).map bcell) (by rw [HH3.out]; exact src_three _ _ (by simp) _ _ _ _ Tryd.underlying42 rfl rfl rfl) (by unfold maxLen; simp) (by simp) ?_; intro v2 w2 hsl hgr hnx; have HB2 := Lib.hid ((HB1.out.more (grown_alloc (grown_refl _ _) _)).next (cs := head3 n) hsl hgr hnx); clear hsl hgr hnx c0 c1 c2 hlt hne; have c3 := cell_at (HCL.out _ HB2.out.grown).1 3 _ rfl)
    | (go_at_call 19; ((with_reducible refine (HP2.out _ (by simp [HL3.out]) _ _ HB2.out).mono ?_); rintro e w3 ⟨v3, rfl, hb3⟩; have HB3 := Lib.hid hb3; clear hb3 c3 HB2; have c4 := cell_at (HCL.out _ HB3.out.grown).1 4 _ rfl))
    | (go_at_call 19; ((with_reducible refine (HP8.out _ (by simp [HL3.out, lowb_len]) _ _ HB3.out).mono ?_); rintro e w4 ⟨v4, rfl, hb4⟩; have HB4 := Lib.hid hb4; clear hb4 c4 HB3; have hr4 := (HCL.out _ HB4.out.grown).1))
    | ((with_reducible refine load_nt n 1 w.heap.size ?_ hr4 ?_); (rfl))
    | (go_at_call 20; ((with_reducible refine (HFL.out _).mono ?_); rintro e w5 ⟨rfl, hg5⟩; have HB5 := Lib.hid (HB4.out.more hg5); clear hg5 HB4 hr4))
    | (at_builtin; refine wpList_append_sl rfl (.tmp 33) (.tmp 36) 42 42 rfl 5 i0 (.int .u8 0) 1 Tryd.underlying42 hi hz0 hz1 hz2 rfl _ _ rfl (HB5.out.more (grown_alloc (grown_refl _ _) _)).sl 1 [bcell (byt g.toNat 0)] (by rw [HGC.out]; exact src_one _ _ _ Tryd.underlying42 rfl) (by unfold maxLen; simp [HL3.out, lowb_len]) (by simp [HL3.out, lowb_len]) ?_; intro v6 w6 hsl hgr hnx; have HB6 := Lib.hid ((HB5.out.more (grown_alloc (grown_refl _ _) _)).next (cs := [byt g.toNat 0]) hsl hgr hnx); clear hsl hgr hnx HB5; have hr6 := (HCL.out _ HB6.out.grown).1)
    | ((with_reducible refine load_d n 38 w.heap.size ?_ hr6 ?_); (rfl)))
  have HB7 : Hid (Buf wb w6 v6 (headb n ++ datb n.d 0)) := Lib.hid (by rw [HEB.out]; simpa [datb] using HB6.out)
  clear HB6 hr6
  go_loopw [4, 6, 40] (fun a _ c wr => ∃ k : Nat, k ≤ 16 ∧ c = .int .i64 (k : Int) ∧ Buf wb wr a (headb n ++ datb n.d k)) (fun _ _ c _ => 16 - (intOf c).toNat)
  case atStart => exact ⟨0, by omega, rfl, HB7.out⟩
  case round =>
    obtain ⟨k, hk, rfl, hb⟩ := hrel
    have HBK := Lib.hid hb
    clear hb
    by_cases hlt : k < 16
    · obtain ⟨x, hx⟩ : ∃ x, n.d[k]? = some x := ⟨_, List.getElem?_eq_getElem (by rw [HN16.out]; exact hlt)⟩
      have hix := idx29 n.d k x HN16.out hx
      have hxb := HF.out.d x (List.mem_of_getElem? hx)
      have HP4 : Hid (∀ v w, Buf wb w v (headb n ++ datb n.d k) → _) := Lib.hid fun v w => putNumber_lit wb x hxb.1 (by omega) 4 (by omega) 4 rfl _ (by rw [List.length_append, HLH.out, datb_len n.d k (by rw [HN16.out]; omega)]; omega) v w
      have HS := Lib.hid (datb_succ n.d k x hx)
      obtain ⟨x0, x1⟩ := hxb
      clear hx
      go_wp2_with (go_at_call 19; ((with_reducible refine (HP4.out _ _ HBK.out).mono ?_); rintro e w7 ⟨v7, rfl, hb7⟩; have HB8 := Lib.hid hb7; clear hb7))
      go_roundw
      case rel => exact ⟨k + 1, by omega, by go_num, by rw [HS.out, ← List.append_assoc]; exact HB8.out⟩
      case measure => simp [intOf]; omega
    · obtain rfl : k = 16 := by omega
      have HC := Lib.hid (conv_sl _ _ _ HBK.out.sl (by rw [List.length_append, HLH.out]; omega))
      have hcv := HC.out
      go_wp2_with fail
      go_ret2
      exact ⟨rfl, grown_trans HG.out HBK.out.grown⟩
end Go.Proofs.YthmnjoanehepcaaDoor.nn
