/-
  What Take answers: contract. Condition: the table of kinds lies in its variable as the program's text has it; the bounds that the theorem names.
-/
import Derived.Test.YthmnjoanehepcaaDoorB6
import Derived.StillTailTactics
namespace Go.Proofs.YthmnjoanehepcaaDoor.nn
open Go Go.ChangeShapes Go.WideShapes Go.ChangeAt Go.RowKit
set_option linter.unusedVariables false

def bn (l : List UInt8) (i : Nat) : Nat := (l.getD i 0).toNat
/-- A part of bytes, as a number. -/
def pv (l : List UInt8) (i m : Nat) : Nat := val ((l.drop i).take m)
/-- The note that bytes are, if it may be. -/
def tk (l : List UInt8) : Nt := ⟨bn l 0, (bn l 1 : Int) - 1, (bn l 2 : Int) - 1, pv l 3 2, pv l 5 8, (bn l 13 : Int) / 4, decide (bn l 13 / 2 % 2 = 1), decide (bn l 13 % 2 = 1), (List.range 16).map fun i => (pv l (14 + 4 * i) 4 : Int), by simp⟩
/-- Its words, the first i alone. -/
def tkd (l : List UInt8) (i : Nat) : List Int := (List.range 16).map fun j => if j < i then (pv l (14 + 4 * j) 4 : Int) else 0
theorem tkd_len (l : List UInt8) (i : Nat) : (tkd l i).length = 16 := by simp [tkd]
theorem tkd_zero (l : List UInt8) : tkd l 0 = zd := by simp [tkd, zd]; rfl
theorem tkd_all (l : List UInt8) : tkd l 16 = (tk l).d := by
  show tkd l 16 = (List.range 16).map fun i => (pv l (14 + 4 * i) 4 : Int)
  unfold tkd
  apply List.map_congr_left
  intro j hj
  rw [if_pos (by simpa using hj)]
theorem tkd_succ (l : List UInt8) (i : Nat) (hi : i < 16) : tkd l (i + 1) = (tkd l i).set i (pv l (14 + 4 * i) 4 : Int) := by
  apply List.ext_getElem?
  intro j
  rw [List.getElem?_set]
  unfold tkd
  simp only [List.getElem?_map, List.length_map, List.length_range]
  by_cases hj : j < 16
  · rw [List.getElem?_range hj]
    by_cases e : i = j
    · subst e; simp [hj]
    · simp only [Option.map_some, e, if_false]
      by_cases h : j < i
      · rw [if_pos h, if_pos (by omega)]
      · rw [if_neg h, if_neg (by omega)]
  · rw [List.getElem?_eq_none (by simp; omega)]
    rw [if_neg (by omega)]; rfl
/-- What Take has filled in so far. -/
def tki (l : List UInt8) (i : Nat) : Nt := ⟨bn l 0, (bn l 1 : Int) - 1, (bn l 2 : Int) - 1, pv l 3 2, pv l 5 8, (bn l 13 : Int) / 4, decide (bn l 13 / 2 % 2 = 1), decide (bn l 13 % 2 = 1), tkd l i, tkd_len l i⟩
theorem tki_all (l : List UInt8) : tki l 16 = tk l := Nt.ext rfl rfl rfl rfl rfl rfl rfl rfl (tkd_all l)
theorem pv_lt (l : List UInt8) (i m : Nat) : pv l i m < 256 ^ m := Nat.lt_of_lt_of_le (val_lt _) (Nat.pow_le_pow_right (by omega) (by rw [List.length_take]; omega))
theorem bn_lt (l : List UInt8) (i : Nat) : bn l i < 256 := UInt8.toNat_lt _
theorem bn_get (l : List UInt8) (i : Nat) (hi : i < l.length) : ∀ h, ((ByteArray.mk l.toArray)[i]'h).toNat = bn l i := fun h => by
  rw [bget l i l[i] (List.getElem?_eq_getElem hi)]
  unfold bn
  rw [List.getD_eq_getElem?_getD, List.getElem?_eq_getElem hi]; rfl
theorem ext_s (l : List UInt8) (i j : Nat) : (ByteArray.mk l.toArray).extract i j = ⟨((l.drop i).take (j - i)).toArray⟩ := by
  rw [ByteArray.extract_mk]
theorem and2 (x : Nat) (h : x < 256) : (bits .and .u8 (x : Int) 2 == 0) = !decide (x / 2 % 2 = 1) := by
  have : ∀ x : Nat, x < 256 → (bits .and .u8 (x : Int) 2 == 0) = !decide (x / 2 % 2 = 1) := by decide +kernel
  exact this x h
theorem and1 (x : Nat) (h : x < 256) : (bits .and .u8 (x : Int) 1 == 0) = !decide (x % 2 = 1) := by
  have : ∀ x : Nat, x < 256 → (bits .and .u8 (x : Int) 1 == 0) = !decide (x % 2 = 1) := by decide +kernel
  exact this x h
set_option maxHeartbeats 1000000 in
theorem number_q (l : List UInt8) (hl : l.length ≤ 8) (w : World) : Calls Tryd.prog 30 #[S l] w fun e w' => e = .returned (.int .u64 (val l : Nat)) ∧ w' = w := by
  have hsz : (ByteArray.mk l.toArray).size = l.length := by show l.toArray.size = _; simp
  go_enter Tryd.func30, Tryd.ntmps30
  go_wp2
  go_loopw [3, 7] (fun a b wr => ∃ k : Nat, k ≤ l.length ∧ a = .int .u64 (val (l.take k) : Nat) ∧ b = .int .i64 (k : Int) ∧ wr = w) (fun _ b _ => l.length - (intOf b).toNat)
  case atStart => exact ⟨0, Nat.zero_le _, by simp [val], rfl, rfl⟩
  case round =>
    obtain ⟨k, hk, rfl, rfl, rfl⟩ := hrel
    by_cases hlt : k < l.length
    · obtain ⟨b, hb⟩ : ∃ b, l[k]? = some b := ⟨_, List.getElem?_eq_getElem (by omega)⟩
      have HV := Lib.hid (val_take l k b hb)
      have hb256 : b.toNat < 256 := UInt8.toNat_lt b
      have hk8 : k < 8 := by omega
      obtain ⟨v, hv⟩ : ∃ v, val (l.take k) = v := ⟨_, rfl⟩
      rw [hv] at HV ⊢
      have HVK := Lib.hid hv
      clear hv
      have hv : v < 256 ^ k := by rw [← HVK.out]; exact Nat.lt_of_lt_of_le (val_lt _) (Nat.pow_le_pow_right (by omega) (by simp; omega))
      have HS := Lib.hid (or_step v b k hk8 hv)
      clear hv
      go_wp2_with fail
      refine ⟨⟨k + 1, by omega, ?_, by go_num, trivial⟩, by simp [intOf]; omega⟩
      rw [bget l k b hb, HS.out, HV.out]
    · obtain rfl : k = l.length := by omega
      go_wp2_with fail
      go_ret
      exact ⟨by rw [List.take_length]; rfl, rfl⟩
set_option maxHeartbeats 1000000 in
theorem value_q (l : List UInt8) (hl : l.length ≤ 8) (w : World) : Calls Tryd.prog 31 #[S l] w fun e w' => e = .returned (.int .u64 (val l : Nat)) ∧ w' = w := by
  have hsz : (ByteArray.mk l.toArray).size = l.length := by show l.toArray.size = _; simp
  go_enter Tryd.func31, Tryd.ntmps31
  go_wp2
  go_loopw [3, 4] (fun a b wr => ∃ k : Nat, k ≤ l.length ∧ a = .int .u64 (val (l.drop k) : Nat) ∧ b = .int .i64 ((k : Int) - 1) ∧ wr = w) (fun _ b _ => (intOf b + 1).toNat)
  case atStart => exact ⟨l.length, Nat.le_refl _, by simp [val], by simp, rfl⟩
  case round =>
    obtain ⟨k, hk, rfl, rfl, rfl⟩ := hrel
    by_cases hlt : 1 ≤ k
    · obtain ⟨j, rfl⟩ : ∃ j, k = j + 1 := ⟨k - 1, by omega⟩
      obtain ⟨b, hb⟩ : ∃ b, l[j]? = some b := ⟨_, List.getElem?_eq_getElem (by omega)⟩
      have HV := Lib.hid (val_drop l j b hb)
      have hv : 256 * val (l.drop (j + 1)) + b.toNat < 18446744073709551616 := by
        have h1 := val_lt (l.drop j)
        have h2 := HV.out
        have h3 := pow8 (n := (l.drop j).length) (by rw [List.length_drop]; omega)
        omega
      have hb256 : b.toNat < 256 := UInt8.toNat_lt b
      generalize val (l.drop (j + 1)) = v at *
      have hj : ((j + 1 : Nat) : Int) - 1 = (j : Int) := by omega
      rw [hj]
      go_wp2_with fail
      refine ⟨⟨j, by omega, ?_, rfl, trivial⟩, by simp [intOf]⟩
      rw [bget l j b hb, wu64 (b.toNat : Int) (by omega) (by omega), wu64 _ (by omega) (by omega), HV.out]
      congr 1; omega
    · obtain rfl : k = 0 := by omega
      go_wp2_with fail
      go_ret
      exact ⟨rfl, rfl⟩
theorem number_part (l : List UInt8) (i m : Nat) (hm : m ≤ 8) (w : World) : Calls Tryd.prog 30 #[S ((l.drop i).take m)] w fun e w' => e = .returned (.int .u64 (pv l i m : Nat)) ∧ w' = w :=
  number_q _ (by rw [List.length_take]; omega) w
theorem value_part (l : List UInt8) (i m : Nat) (hm : m ≤ 8) (w : World) : Calls Tryd.prog 31 #[S ((l.drop i).take m)] w fun e w' => e = .returned (.int .u64 (pv l i m : Nat)) ∧ w' = w :=
  value_q _ (by rw [List.length_take]; omega) w
theorem nq2 (x : Nat) (h : x < 256) : (bits .and .u8 (x : Int) 2 != 0) = decide (x / 2 % 2 = 1) := by
  rw [bne, and2 x h, Bool.not_not]
theorem nq1 (x : Nat) (h : x < 256) : (bits .and .u8 (x : Int) 1 != 0) = decide (x % 2 = 1) := by
  rw [bne, and1 x h, Bool.not_not]
theorem tki_zero (l : List UInt8) : na (tki l 0) = #[.int .u8 (bn l 0 : Int), .int .i64 ((bn l 1 : Int) - 1), .int .i64 ((bn l 2 : Int) - 1), .int .i64 (pv l 3 2 : Int), .int .u64 (pv l 5 8 : Int), .int .u8 ((bn l 13 : Int) / 4), .bool (decide (bn l 13 / 2 % 2 = 1)), .bool (decide (bn l 13 % 2 = 1)), .int .u32 0, .int .u32 0, .int .u32 0, .int .u32 0, .int .u32 0, .int .u32 0, .int .u32 0, .int .u32 0, .int .u32 0, .int .u32 0, .int .u32 0, .int .u32 0, .int .u32 0, .int .u32 0, .int .u32 0, .int .u32 0] := by
  have h : tki l 0 = bare (bn l 0) ((bn l 1 : Int) - 1) ((bn l 2 : Int) - 1) (pv l 3 2) (pv l 5 8) ((bn l 13 : Int) / 4) (decide (bn l 13 / 2 % 2 = 1)) (decide (bn l 13 % 2 = 1)) := Nt.ext rfl rfl rfl rfl rfl rfl rfl rfl (tkd_zero l)
  rw [h, bare_na]
theorem bare_size (k f t b st s : Int) (h q : Bool) : (#[.int .u8 k, .int .i64 f, .int .i64 t, .int .i64 b, .int .u64 st, .int .u8 s, .bool h, .bool q, .int .u32 0, .int .u32 0, .int .u32 0, .int .u32 0, .int .u32 0, .int .u32 0, .int .u32 0, .int .u32 0, .int .u32 0, .int .u32 0, .int .u32 0, .int .u32 0, .int .u32 0, .int .u32 0, .int .u32 0, .int .u32 0] : Array Value).size = 24 := rfl
/-- A store of a note in a region that draws its order. -/
theorem named31 : ∃ (t : TypeId) (m : Nat), Hid (Op.store 31 = Op.store t) ∧ (∀ w, (isAgg t).run Tryd.prog w = .ok true w) ∧ (∀ w, (sizeOf t).run Tryd.prog w = .ok m w) ∧ m = 24 ∧
    (∀ (n : Nt) (A C : Array Value), na n = A → C.size = 24 → ∀ W : World, (storeCells ⟨W.heap.size, 0, none⟩ A.toList 0).run Tryd.prog (W.alloc (.cells C 31)) = .ok () (W.alloc (.cells A 31))) :=
  ⟨31, 24, Lib.hid rfl, Tryd.isAgg31, Tryd.sizeOf31, rfl, fun n A C hA hC W => by
    subst hA
    exact run_storeCells_new W 31 C (na n) (info31a n) (by rw [hC, na_size]) (na_one n)⟩
theorem blk_setCell {w : World} {b o : Nat} {t : TypeId} {cur : Array Value} (v : Value) (h : w.heap[b]? = some (.cells cur t (0, 0))) : (w.setCell ⟨b, o, none⟩ v).heap[b]? = some (.cells (cur.set! o v) t (0, 0)) := by
  obtain ⟨hlt, hk⟩ := Array.getElem?_eq_some_iff.1 h
  show (w.heap.modify b _)[b]? = _
  rw [Array.getElem?_eq_getElem (by rw [Array.size_modify]; exact hlt), Array.getElem_modify_self, hk]
  simp [Array.set!_eq_setIfInBounds]
theorem slice_part (l : List UInt8) (i m : Nat) (h : i + m ≤ l.length) (a b : Int) (ha : a = (i : Int)) (hb : b = (i : Int) + (m : Int)) (w : World) : (Instr.slice 9 (.string ⟨l.toArray⟩) (some (.int .i64 a)) (some (.int .i64 b)) none).run Tryd.prog w = .ok (S ((l.drop i).take m)) w := by
  have hsz : (ByteArray.mk l.toArray).size = l.length := by show l.toArray.size = _; simp
  have := run_slice_string (P := Tryd.prog) (w := w) 9 ⟨l.toArray⟩ .i64 .i64 a b Tryd.underlying9 (by omega) (by omega) (by rw [hsz]; omega)
  rw [this, ha, hb]
  have e1 : ((i : Int) + (m : Int)).toNat = i + m := by omega
  have e2 : ((i : Int)).toNat = i := by omega
  rw [e1, e2, ext_s l i (i + m), Nat.add_sub_cancel_left]
theorem tki_succ (l : List UInt8) (k : Nat) (hk : k < 16) : (na (tki l k)).set! (8 + k) (.int .u32 (pv l (14 + 4 * k) 4 : Int)) = na (tki l (k + 1)) := by
  have h : nt (tki l (k + 1)) = (nt (tki l k)).set (8 + k) (.int .u32 (pv l (14 + 4 * k) 4 : Int)) := by
    show _ :: _ :: _ :: _ :: _ :: _ :: _ :: _ :: (tkd l (k + 1)).map U = List.set (_ :: _ :: _ :: _ :: _ :: _ :: _ :: _ :: (tkd l k).map U) (8 + k) _
    rw [Nat.add_comm 8 k, tkd_succ l k hk]
    simp [U]
    exact ⟨rfl, rfl, rfl, rfl, rfl, rfl, rfl, rfl⟩
  rw [na, na, h, Array.set!_eq_setIfInBounds]
  simp
/-- What Take has filled in, in its variable. -/
theorem tki_cell {w : World} {g : Nat} {l : List UInt8} {k : Nat} (hk : k < 16) (h : w.heap[g]? = some (.cells (na (tki l k)) 31 (0, 0))) : (∃ v, w.cell? ⟨g, 8 + k, none⟩ = some v) ∧ w.frozen? ⟨g, 8 + k, none⟩ = false := by
  refine ⟨⟨(na (tki l k))[8 + k]'(by rw [na_size]; omega), ?_⟩, frozen_of_row _ _ _ _ _ h⟩
  rw [cell_of_row _ _ _ _ _ _ h]
  exact Array.getElem?_eq_getElem _
theorem ret_nt2 {fn : Func} (hres : fn.results = #[.cell 2 31, .tmp 3]) (w : World) (n : Nt) (v : Value) (B : Nat) (tmps : Array Value) (Q : Ending → World → Prop) (h4 : tmps.getD 2 undef = .pointer (some ⟨B, 0, none⟩)) (h5 : tmps.getD 3 undef = v)
    (hr : w.rangeAt B 0 (nt n)) (hQ : Q (.returned (.tuple #[.agg (na n), v])) w) : bodyPost Tryd.prog fn Q .ret { tmps := tmps, defers := [] } w := by
  refine bodyPost_ret (v := .tuple #[.agg (na n), v]) ?_ rfl hQ
  rw [results_cell_tmp hres, h4, h5]
  have := run_loadVar_mid (P := Tryd.prog) w B 0 31 (nt n) _ hr Tryd.underlying31 rfl (info31' n)
  simp [asAddr, Result.andThen, this, na]
theorem take_len (l : List UInt8) (hl : l.length ≤ 1000000) (w : World) (h : l.length ≠ 78) : Calls Tryd.prog 17 #[S l] w fun e w' => e = .returned (.tuple #[.agg (na zn), .int .i64 6]) ∧ w.grownBy w' none := by
  have hsz : (ByteArray.mk l.toArray).size = l.length := by show l.toArray.size = _; simp
  have hd : decide ((l.length : Int) = 78) = false := by simp; omega
  go_enter Tryd.func17, Tryd.ntmps17
  have HZ : Hid (na zn = _) := Lib.hid (bare_na 0 0 0 0 0 0 false false)
  go_wp2_with ((with_reducible refine store_lit _ _ HZ.out _ 2 10 ?_ ?_ ?_ ?_); (rfl); (rfl); (rfl))
  exact ret_nt2 rfl _ zn _ w.heap.size _ _ (by rfl) (by rfl) (range_of (heap_alloc_new w (.cells (na zn) 31))) ⟨rfl, grown_alloc (grown_refl _ _) _⟩

set_option maxRecDepth 100000 in
set_option maxHeartbeats 2000000 in
theorem take_78 (l : List UInt8) (hl : l.length = 78) (w : World) (hT : Tab w) : Calls Tryd.prog 17 #[S l] w fun e w' => e = .returned (if (tk l).ok then .tuple #[.agg (na (tk l)), .int .i64 0] else .tuple #[.agg (na zn), .int .i64 6]) ∧ w.grownBy w' none := by
  have hsz : (ByteArray.mk l.toArray).size = 78 := by show l.toArray.size = _; simp [hl]
  have g0 := bn_get l 0 (by omega)
  have g1 := bn_get l 1 (by omega)
  have g2 := bn_get l 2 (by omega)
  have g13 := bn_get l 13 (by omega)
  have x3 : (ByteArray.mk l.toArray).extract 3 5 = ⟨((l.drop 3).take 2).toArray⟩ := ext_s l 3 5
  have x5 : (ByteArray.mk l.toArray).extract 5 13 = ⟨((l.drop 5).take 8).toArray⟩ := ext_s l 5 13
  have HN3 := Lib.hid (number_part l 3 2 (by omega))
  have HN5 := Lib.hid (number_part l 5 8 (by omega))
  have a2 := nq2 _ (bn_lt l 13)
  have a1 := nq1 _ (bn_lt l 13)
  have e1 : IntKind.i64.wrap (bn l 1 : Int) = bn l 1 := IntWalk.i64_in _ (by have := bn_lt l 1; omega)
  have e2 : IntKind.i64.wrap (bn l 2 : Int) = bn l 2 := IntWalk.i64_in _ (by have := bn_lt l 2; omega)
  have e3 : IntKind.i64.wrap ((bn l 1 : Int) - 1) = (bn l 1 : Int) - 1 := IntWalk.i64_in _ (by have := bn_lt l 1; omega)
  have e4 : IntKind.i64.wrap ((bn l 2 : Int) - 1) = (bn l 2 : Int) - 1 := IntWalk.i64_in _ (by have := bn_lt l 2; omega)
  have e5 : IntKind.i64.wrap (pv l 3 2 : Int) = pv l 3 2 := IntWalk.i64_in _ (by have := pv_lt l 3 2; omega)
  have e6 : IntKind.u8.wrap ((bn l 13 : Int) / 4) = (bn l 13 : Int) / 4 := IntWalk.u8_in _ (by have := bn_lt l 13; omega)
  have HW := Lib.hid hT
  obtain ⟨wb, hwb⟩ : ∃ wb, w.alloc (.cells (na zn) 31) = wb := ⟨_, rfl⟩
  have HWB := Lib.hid hwb
  have hz : na zn = _ := bare_na 0 0 0 0 0 0 false false
  rw [hz] at hwb
  clear hT hz
  go_enter Tryd.func17, Tryd.ntmps17
  go_wp2_with fail
  obtain ⟨A, hA⟩ : ∃ A, na (tki l 0) = A := ⟨_, rfl⟩
  obtain ⟨t, mm, HTT, hagg, hsize, hm24, hst⟩ := named31
  have HA := Lib.hid hA
  have hAs : A.size = mm := by rw [← hA, na_size, hm24]
  have hst : (storeCells ⟨wb.heap.size, 0, none⟩ A.toList 0).run Tryd.prog (wb.alloc (.cells _ 31)).drew = .ok () (wb.alloc (.cells A 31)).drew := hst (tki l 0) A _ hA (bare_size 0 0 0 0 0 0 false false) wb.drew
  rw [tki_zero] at hA
  clear hm24
  rw [HTT.out]
  refine wp_region_held_drew (S := fun _ => True) (by kernel_rfl) trivial (fun hHeld => ?_)
  refine wpAnyH_take (i := 0) (oi := ⟨some 11, Op.move (Operand.tmp 0), _, _, _, _⟩) (v := ?v1) rfl (by kernel_rfl) (by kernel_rfl) (by kernel_rfl) (fun _ _ _ h => h) (Or.inl ⟨by rfl, ?hy1⟩) (by assumption) ?rest1
  case hy1 => ((intro w0 hSw; go_simp); try (with_reducible rfl))
  try simp only [Act.put, List.setIfInBounds_toArray, List.set_cons_zero, List.set_cons_succ]
  refine wpAnyH_take (i := 1) (oi := ⟨some 12, Op.index 9 (Operand.tmp 11) (Operand.const (Value.int IntKind.i64 0)), _, _, _, _⟩) (v := ?v2) rfl (by kernel_rfl) (by kernel_rfl) (by kernel_rfl) (fun _ _ _ h => h) (Or.inl ⟨by rfl, ?hy2⟩) (by assumption) ?rest2
  case hy2 => ((intro w0 hSw; go_simp); try (with_reducible rfl))
  try simp only [Act.put, List.setIfInBounds_toArray, List.set_cons_zero, List.set_cons_succ]
  refine wpAnyH_take (i := 2) (oi := ⟨some 13, Op.move (Operand.tmp 0), _, _, _, _⟩) (v := ?v3) rfl (by kernel_rfl) (by kernel_rfl) (by kernel_rfl) (fun _ _ _ h => h) (Or.inl ⟨by rfl, ?hy3⟩) (by assumption) ?rest3
  case hy3 => ((intro w0 hSw; go_simp); try (with_reducible rfl))
  try simp only [Act.put, List.setIfInBounds_toArray, List.set_cons_zero, List.set_cons_succ]
  refine wpAnyH_take (i := 3) (oi := ⟨some 14, Op.index 9 (Operand.tmp 13) (Operand.const (Value.int IntKind.i64 1)), _, _, _, _⟩) (v := ?v4) rfl (by kernel_rfl) (by kernel_rfl) (by kernel_rfl) (fun _ _ _ h => h) (Or.inl ⟨by rfl, ?hy4⟩) (by assumption) ?rest4
  case hy4 => ((intro w0 hSw; go_simp); try (with_reducible rfl))
  try simp only [Act.put, List.setIfInBounds_toArray, List.set_cons_zero, List.set_cons_succ]
  refine wpAnyH_take (i := 4) (oi := ⟨some 15, Op.convert 5 3 (Operand.tmp 14), _, _, _, _⟩) (v := ?v5) rfl (by kernel_rfl) (by kernel_rfl) (by kernel_rfl) (fun _ _ _ h => h) (Or.inl ⟨by rfl, ?hy5⟩) (by assumption) ?rest5
  case hy5 => ((intro w0 hSw; go_simp); try (with_reducible rfl))
  try simp only [Act.put, List.setIfInBounds_toArray, List.set_cons_zero, List.set_cons_succ]
  refine wpAnyH_take (i := 5) (oi := ⟨some 16, Op.binOp BinOp.sub 3 (Operand.tmp 15) (Operand.const (Value.int IntKind.i64 1)) 3, _, _, _, _⟩) (v := ?v6) rfl (by kernel_rfl) (by kernel_rfl) (by kernel_rfl) (fun _ _ _ h => h) (Or.inl ⟨by rfl, ?hy6⟩) (by assumption) ?rest6
  case hy6 => ((intro w0 hSw; go_simp); try (with_reducible rfl))
  try simp only [Act.put, List.setIfInBounds_toArray, List.set_cons_zero, List.set_cons_succ]
  refine wpAnyH_take (i := 6) (oi := ⟨some 17, Op.move (Operand.tmp 0), _, _, _, _⟩) (v := ?v7) rfl (by kernel_rfl) (by kernel_rfl) (by kernel_rfl) (fun _ _ _ h => h) (Or.inl ⟨by rfl, ?hy7⟩) (by assumption) ?rest7
  case hy7 => ((intro w0 hSw; go_simp); try (with_reducible rfl))
  try simp only [Act.put, List.setIfInBounds_toArray, List.set_cons_zero, List.set_cons_succ]
  refine wpAnyH_take (i := 7) (oi := ⟨some 18, Op.index 9 (Operand.tmp 17) (Operand.const (Value.int IntKind.i64 2)), _, _, _, _⟩) (v := ?v8) rfl (by kernel_rfl) (by kernel_rfl) (by kernel_rfl) (fun _ _ _ h => h) (Or.inl ⟨by rfl, ?hy8⟩) (by assumption) ?rest8
  case hy8 => ((intro w0 hSw; go_simp); try (with_reducible rfl))
  try simp only [Act.put, List.setIfInBounds_toArray, List.set_cons_zero, List.set_cons_succ]
  refine wpAnyH_take (i := 8) (oi := ⟨some 19, Op.convert 5 3 (Operand.tmp 18), _, _, _, _⟩) (v := ?v9) rfl (by kernel_rfl) (by kernel_rfl) (by kernel_rfl) (fun _ _ _ h => h) (Or.inl ⟨by rfl, ?hy9⟩) (by assumption) ?rest9
  case hy9 => ((intro w0 hSw; go_simp); try (with_reducible rfl))
  try simp only [Act.put, List.setIfInBounds_toArray, List.set_cons_zero, List.set_cons_succ]
  refine wpAnyH_take (i := 9) (oi := ⟨some 20, Op.binOp BinOp.sub 3 (Operand.tmp 19) (Operand.const (Value.int IntKind.i64 1)) 3, _, _, _, _⟩) (v := ?v10) rfl (by kernel_rfl) (by kernel_rfl) (by kernel_rfl) (fun _ _ _ h => h) (Or.inl ⟨by rfl, ?hy10⟩) (by assumption) ?rest10
  case hy10 => ((intro w0 hSw; go_simp); try (with_reducible rfl))
  try simp only [Act.put, List.setIfInBounds_toArray, List.set_cons_zero, List.set_cons_succ]
  refine wpAnyH_take (i := 10) (oi := ⟨some 21, Op.move (Operand.tmp 0), _, _, _, _⟩) (v := ?v11) rfl (by kernel_rfl) (by kernel_rfl) (by kernel_rfl) (fun _ _ _ h => h) (Or.inl ⟨by rfl, ?hy11⟩) (by assumption) ?rest11
  case hy11 => ((intro w0 hSw; go_simp); try (with_reducible rfl))
  try simp only [Act.put, List.setIfInBounds_toArray, List.set_cons_zero, List.set_cons_succ]
  refine wpAnyH_take (i := 11) (oi := ⟨some 22, Op.slice 9 (Operand.tmp 21) (some (Operand.const (Value.int IntKind.i64 3))) (some (Operand.const (Value.int IntKind.i64 5))) none, _, _, _, _⟩) (v := ?v12) rfl (by kernel_rfl) (by kernel_rfl) (by kernel_rfl) (fun _ _ _ h => h) (Or.inl ⟨by rfl, ?hy12⟩) (by assumption) ?rest12
  case hy12 => ((intro w0 hSw; go_simp); try (with_reducible rfl))
  try simp only [Act.put, List.setIfInBounds_toArray, List.set_cons_zero, List.set_cons_succ]
  refine wpAnyH_take (i := 14) (oi := ⟨some 25, Op.move (Operand.tmp 0), _, _, _, _⟩) (v := ?v13) rfl (by kernel_rfl) (by kernel_rfl) (by kernel_rfl) (fun _ _ _ h => h) (Or.inl ⟨by rfl, ?hy13⟩) (by assumption) ?rest13
  case hy13 => ((intro w0 hSw; go_simp); try (with_reducible rfl))
  try simp only [Act.put, List.setIfInBounds_toArray, List.set_cons_zero, List.set_cons_succ]
  refine wpAnyH_take (i := 15) (oi := ⟨some 26, Op.slice 9 (Operand.tmp 25) (some (Operand.const (Value.int IntKind.i64 5))) (some (Operand.const (Value.int IntKind.i64 13))) none, _, _, _, _⟩) (v := ?v14) rfl (by kernel_rfl) (by kernel_rfl) (by kernel_rfl) (fun _ _ _ h => h) (Or.inl ⟨by rfl, ?hy14⟩) (by assumption) ?rest14
  case hy14 => ((intro w0 hSw; go_simp); try (with_reducible rfl))
  try simp only [Act.put, List.setIfInBounds_toArray, List.set_cons_zero, List.set_cons_succ]
  refine wpAnyH_take (i := 17) (oi := ⟨some 28, Op.move (Operand.tmp 0), _, _, _, _⟩) (v := ?v15) rfl (by kernel_rfl) (by kernel_rfl) (by kernel_rfl) (fun _ _ _ h => h) (Or.inl ⟨by rfl, ?hy15⟩) (by assumption) ?rest15
  case hy15 => ((intro w0 hSw; go_simp); try (with_reducible rfl))
  try simp only [Act.put, List.setIfInBounds_toArray, List.set_cons_zero, List.set_cons_succ]
  refine wpAnyH_take (i := 18) (oi := ⟨some 29, Op.index 9 (Operand.tmp 28) (Operand.const (Value.int IntKind.i64 13)), _, _, _, _⟩) (v := ?v16) rfl (by kernel_rfl) (by kernel_rfl) (by kernel_rfl) (fun _ _ _ h => h) (Or.inl ⟨by rfl, ?hy16⟩) (by assumption) ?rest16
  case hy16 => ((intro w0 hSw; go_simp); try (with_reducible rfl))
  try simp only [Act.put, List.setIfInBounds_toArray, List.set_cons_zero, List.set_cons_succ]
  refine wpAnyH_take (i := 19) (oi := ⟨some 30, Op.binOp BinOp.quo 5 (Operand.tmp 29) (Operand.const (Value.int IntKind.u8 4)) 5, _, _, _, _⟩) (v := ?v17) rfl (by kernel_rfl) (by kernel_rfl) (by kernel_rfl) (fun _ _ _ h => h) (Or.inl ⟨by rfl, ?hy17⟩) (by assumption) ?rest17
  case hy17 => ((intro w0 hSw; go_simp); try (with_reducible rfl))
  try simp only [Act.put, List.setIfInBounds_toArray, List.set_cons_zero, List.set_cons_succ]
  refine wpAnyH_take (i := 20) (oi := ⟨some 31, Op.move (Operand.tmp 0), _, _, _, _⟩) (v := ?v18) rfl (by kernel_rfl) (by kernel_rfl) (by kernel_rfl) (fun _ _ _ h => h) (Or.inl ⟨by rfl, ?hy18⟩) (by assumption) ?rest18
  case hy18 => ((intro w0 hSw; go_simp); try (with_reducible rfl))
  try simp only [Act.put, List.setIfInBounds_toArray, List.set_cons_zero, List.set_cons_succ]
  refine wpAnyH_take (i := 21) (oi := ⟨some 32, Op.index 9 (Operand.tmp 31) (Operand.const (Value.int IntKind.i64 13)), _, _, _, _⟩) (v := ?v19) rfl (by kernel_rfl) (by kernel_rfl) (by kernel_rfl) (fun _ _ _ h => h) (Or.inl ⟨by rfl, ?hy19⟩) (by assumption) ?rest19
  case hy19 => ((intro w0 hSw; go_simp); try (with_reducible rfl))
  try simp only [Act.put, List.setIfInBounds_toArray, List.set_cons_zero, List.set_cons_succ]
  refine wpAnyH_take (i := 22) (oi := ⟨some 33, Op.binOp BinOp.and 5 (Operand.tmp 32) (Operand.const (Value.int IntKind.u8 2)) 5, _, _, _, _⟩) (v := ?v20) rfl (by kernel_rfl) (by kernel_rfl) (by kernel_rfl) (fun _ _ _ h => h) (Or.inl ⟨by rfl, ?hy20⟩) (by assumption) ?rest20
  case hy20 => ((intro w0 hSw; go_simp); try (with_reducible rfl))
  try simp only [Act.put, List.setIfInBounds_toArray, List.set_cons_zero, List.set_cons_succ]
  refine wpAnyH_take (i := 23) (oi := ⟨some 34, Op.binOp BinOp.neq 5 (Operand.tmp 33) (Operand.const (Value.int IntKind.u8 0)) 5, _, _, _, _⟩) (v := ?v21) rfl (by kernel_rfl) (by kernel_rfl) (by kernel_rfl) (fun _ _ _ h => h) (Or.inl ⟨by rfl, ?hy21⟩) (by assumption) ?rest21
  case hy21 => ((intro w0 hSw; go_simp); try (with_reducible rfl))
  try simp only [Act.put, List.setIfInBounds_toArray, List.set_cons_zero, List.set_cons_succ]
  refine wpAnyH_take (i := 24) (oi := ⟨some 35, Op.move (Operand.tmp 0), _, _, _, _⟩) (v := ?v22) rfl (by kernel_rfl) (by kernel_rfl) (by kernel_rfl) (fun _ _ _ h => h) (Or.inl ⟨by rfl, ?hy22⟩) (by assumption) ?rest22
  case hy22 => ((intro w0 hSw; go_simp); try (with_reducible rfl))
  try simp only [Act.put, List.setIfInBounds_toArray, List.set_cons_zero, List.set_cons_succ]
  refine wpAnyH_take (i := 25) (oi := ⟨some 36, Op.index 9 (Operand.tmp 35) (Operand.const (Value.int IntKind.i64 13)), _, _, _, _⟩) (v := ?v23) rfl (by kernel_rfl) (by kernel_rfl) (by kernel_rfl) (fun _ _ _ h => h) (Or.inl ⟨by rfl, ?hy23⟩) (by assumption) ?rest23
  case hy23 => ((intro w0 hSw; go_simp); try (with_reducible rfl))
  try simp only [Act.put, List.setIfInBounds_toArray, List.set_cons_zero, List.set_cons_succ]
  refine wpAnyH_take (i := 26) (oi := ⟨some 37, Op.binOp BinOp.and 5 (Operand.tmp 36) (Operand.const (Value.int IntKind.u8 1)) 5, _, _, _, _⟩) (v := ?v24) rfl (by kernel_rfl) (by kernel_rfl) (by kernel_rfl) (fun _ _ _ h => h) (Or.inl ⟨by rfl, ?hy24⟩) (by assumption) ?rest24
  case hy24 => ((intro w0 hSw; go_simp); try (with_reducible rfl))
  try simp only [Act.put, List.setIfInBounds_toArray, List.set_cons_zero, List.set_cons_succ]
  refine wpAnyH_take (i := 27) (oi := ⟨some 38, Op.binOp BinOp.neq 5 (Operand.tmp 37) (Operand.const (Value.int IntKind.u8 0)) 5, _, _, _, _⟩) (v := ?v25) rfl (by kernel_rfl) (by kernel_rfl) (by kernel_rfl) (fun _ _ _ h => h) (Or.inl ⟨by rfl, ?hy25⟩) (by assumption) ?rest25
  case hy25 => ((intro w0 hSw; go_simp); try (with_reducible rfl))
  try simp only [Act.put, List.setIfInBounds_toArray, List.set_cons_zero, List.set_cons_succ]
  refine wpAnyH_ready (rs := [12, 29]) (by kernel_rfl) (by simp) ?_
  refine AllReadyH.cons (o := ⟨some 23, Op.call { callee := Callee.value (Operand.func 30), args := #[(Operand.tmp 22)], argTypes := #[9] }, _, _, _, _⟩) rfl (fun K hK => ?_) ?_
  · go_simp
    (with_reducible refine (HN3.out _).mono ?_); rintro e w9 ⟨rfl, rfl⟩
    go_wp2_with fail
    refine hK.out _ _ trivial (fun hHeld => ?_)
    clear hK K
    try simp only [Act.put, List.setIfInBounds_toArray, List.set_cons_zero, List.set_cons_succ]
    refine wpAnyH_take (i := 13) (oi := ⟨some 24, Op.convert 25 3 (Operand.tmp 23), _, _, _, _⟩) (v := ?v26) rfl (by kernel_rfl) (by kernel_rfl) (by kernel_rfl) (fun _ _ _ h => h) (Or.inl ⟨by rfl, ?hy26⟩) (by assumption) ?rest26
    case hy26 => ((intro w0 hSw; go_simp); try (with_reducible rfl))
    try simp only [Act.put, List.setIfInBounds_toArray, List.set_cons_zero, List.set_cons_succ]
    refine wpAnyH_ready (rs := [16, 29]) (by kernel_rfl) (by simp) ?_
    refine AllReadyH.cons (o := ⟨some 27, Op.call { callee := Callee.value (Operand.func 30), args := #[(Operand.tmp 26)], argTypes := #[9] }, _, _, _, _⟩) rfl (fun K hK => ?_) ?_
    · go_simp
      (with_reducible refine (HN5.out _).mono ?_); rintro e w9 ⟨rfl, rfl⟩
      go_wp2_with fail
      refine hK.out _ _ trivial (fun hHeld => ?_)
      clear hK K
      try simp only [Act.put, List.setIfInBounds_toArray, List.set_cons_zero, List.set_cons_succ]
      refine wpAnyH_take (i := 28) (oi := ⟨some 39, Op.build 31 #[(0, (Operand.tmp 12)), (1, (Operand.tmp 16)), (2, (Operand.tmp 20)), (3, (Operand.tmp 24)), (4, (Operand.tmp 27)), (5, (Operand.tmp 30)), (6, (Operand.tmp 34)), (7, (Operand.tmp 38))], _, _, _, _⟩) (v := ?v27) rfl (by kernel_rfl) (by kernel_rfl) (by kernel_rfl) (fun _ _ _ h => h) (Or.inl ⟨by rfl, ?hy27⟩) (by assumption) ?rest27
      case hy27 => ((intro w0 hSw; go_simp); try (with_reducible rfl))
      try simp only [Act.put, List.setIfInBounds_toArray, List.set_cons_zero, List.set_cons_succ]
      refine wpAnyH_ready (rs := [29]) (by kernel_rfl) (by simp) ?_
      refine AllReadyH.cons (o := ⟨some 4, Op.alloc 31, _, _, _, _⟩) rfl (fun K hK => ?_) ?_
      · go_simp
        refine hK.out _ _ trivial (fun hHeld => ?_)
        clear hK K
        try simp only [Act.put, List.setIfInBounds_toArray, List.set_cons_zero, List.set_cons_succ]
        refine wpAnyH_ready (rs := [30]) (by kernel_rfl) (by simp) ?_
        refine AllReadyH.cons (o := ⟨none, Op.store t (Operand.tmp 4) (Operand.tmp 39), _, _, _, _⟩) rfl (fun K hK => ?_) ?_
        · go_simp
          refine hK.out _ _ trivial (fun hHeld => ?_)
          clear hK K
          try simp only [Act.put, List.setIfInBounds_toArray, List.set_cons_zero, List.set_cons_succ]
          refine wpAnyH_done (by kernel_rfl) ?_ _
          have HB : Hid ((wb.alloc (.cells A 31)).drew.heap[wb.heap.size]? = some (.cells (na (tki l 0)) 31 (0, 0)) ∧ wb.grownBy (wb.alloc (.cells A 31)).drew none) := Lib.hid (HA.out ▸ ⟨heap_alloc_new wb _, grown_drew (grown_alloc (grown_refl _ _) _)⟩)
          clear hA hst hAs hagg hsize e1 e2 e3 e4 e5 e6 g0 g1 g2 g13 x3 x5 a1 a2 HN3 HN5 hwb
          generalize (wb.alloc (.cells A 31)).drew = w2 at HB ⊢
          clear HA HTT
          go_wp2_with fail
          go_loopw [5, 6, 40] (fun _ _ c wr => ∃ k : Nat, k ≤ 16 ∧ c = .int .i64 (k : Int) ∧ wr.heap[wb.heap.size]? = some (.cells (na (tki l k)) 31 (0, 0)) ∧ wb.grownBy wr none) (fun _ _ c _ => 16 - (intOf c).toNat)
          case atStart => exact ⟨0, by omega, rfl, HB.out.1, HB.out.2⟩
          case round =>
            obtain ⟨k, hk, rfl, hb, hg⟩ := hrel
            have HBK : Hid _ := Lib.hid (And.intro hb hg)
            clear hb hg
            by_cases hlt : k < 16
            · obtain ⟨⟨v0, hc⟩, hf⟩ := tki_cell hlt HBK.out.1
              have hsl := fun w => slice_part l (14 + 4 * k) 4 (by rw [hl]; omega) ((14 : Int) + (k : Int) * 4) ((14 : Int) + (k : Int) * 4 + 4) (by omega) (by omega) w
              have hsi : (k : Int) * 4 = ((k * 4 : Nat) : Int) := by omega
              have HNK := Lib.hid (number_part l (14 + 4 * k) 4 (by omega))
              have HS := Lib.hid (tki_succ l k hlt)
              have hpv : IntKind.u32.wrap (pv l (14 + 4 * k) 4 : Int) = pv l (14 + 4 * k) 4 := IntWalk.u32_in _ (by have := pv_lt l (14 + 4 * k) 4; omega)
              generalize (l.drop (14 + 4 * k)).take 4 = y at *
              generalize pv l (14 + 4 * k) 4 = p at *
              clear hsz hl hsi
              go_wp2_with (go_at_call 30; ((with_reducible refine (HNK.out _).mono ?_); rintro e w9 ⟨rfl, rfl⟩))
              go_roundw
              case rel => exact ⟨k + 1, by omega, by go_num, by rw [← HS.out]; exact blk_setCell _ HBK.out.1, grown_new HBK.out.2 (Nat.le_refl _) (grown_setCells _ _ (8 + k) [_])⟩
              case measure => simp [intOf]; omega
            · obtain rfl : k = 16 := by omega
              have HK : Hid (wr.heap[wb.heap.size]? = some (.cells (na (tk l)) 31 (0, 0)) ∧ wb.grownBy wr none) := Lib.hid (by rw [← tki_all]; exact HBK.out)
              have hr := range_of HK.out.1
              clear hsz hl
              have HWR : Hid (w.grownBy wr none ∧ Tab wr) := Lib.hid (by
                have h0 : w.grownBy wb none := HWB.out ▸ grown_alloc (grown_refl _ _) _
                have h1 := grown_trans h0 HK.out.2
                exact ⟨h1, HW.out.grown h1⟩)
              have HE0 : Hid (∀ w10, wr.grownBy w10 none → w10.rangeAt wb.heap.size 0 (nt (tk l)) ∧ w10.heap[w.heap.size]? = some (.cells (na zn) 31 (0, 0)) ∧ w.grownBy w10 none) := Lib.hid fun w10 hg => by
                have hz : wb.heap[w.heap.size]? = some (.cells (na zn) 31 (0, 0)) := HWB.out ▸ heap_alloc_new _ _
                exact ⟨range_grown (range_of HK.out.1) hg (by simp), ((grown_trans HK.out.2 hg).block _ (lt_of hz) (by simp)).trans hz, grown_trans HWR.out.1 hg⟩
              have HM := Lib.hid (may_any (tk l) wr HWR.out.2)
              by_cases hok : (tk l).ok
              · rw [yes_of hok] at HM
                have HOK := Lib.hid hok
                clear hok
                go_wp2_with (first
                  | ((with_reducible refine load_nt (tk l) 4 wb.heap.size ?_ hr ?_); (rfl))
                  | (go_at_call 14; ((with_reducible refine HM.out.mono ?_); rintro e w10 ⟨rfl, hg10⟩; have HE := Lib.hid (HE0.out w10 hg10); clear hg10 hr))
                  | ((with_reducible refine load_nt (tk l) 4 wb.heap.size ?_ HE.out.1 ?_); (rfl))
                  | ((with_reducible refine store_any (tk l) _ 2 61 w.heap.size ?_ ?_ HE.out.2.1 ?_ ?_); (rfl); (rfl); (rfl)))
                exact ret_nt2 rfl _ (tk l) _ w.heap.size _ _ (by rfl) (by rfl) (range_of (setRow_heap _ _ _ _ _ _ HE.out.2.1)) ⟨by rfl, grown_setRow HE.out.2.2 _ (Nat.le_refl _) _⟩
              · rw [yes_not hok] at HM
                have HOK := Lib.hid hok
                clear hok
                go_wp2_with (first
                  | ((with_reducible refine load_nt (tk l) 4 wb.heap.size ?_ hr ?_); (rfl))
                  | (go_at_call 14; ((with_reducible refine HM.out.mono ?_); rintro e w10 ⟨rfl, hg10⟩; have HE := Lib.hid (HE0.out w10 hg10); clear hg10 hr))
                  | ((with_reducible refine store_any zn _ 2 60 w.heap.size ?_ ?_ HE.out.2.1 ?_ ?_); (rfl); (rfl); (rfl)))
                exact ret_nt2 rfl _ zn _ w.heap.size _ _ (by rfl) (by rfl) (range_of (setRow_heap _ _ _ _ _ _ HE.out.2.1)) ⟨by rfl, grown_setRow HE.out.2.2 _ (Nat.le_refl _) _⟩
        exact AllReadyH.nil
      exact AllReadyH.nil
    refine AllReadyH.cons (o := ⟨some 4, Op.alloc 31, _, _, _, _⟩) rfl (fun K hK => ?_) ?_
    · go_simp
      refine hK.out _ _ trivial (fun hHeld => ?_)
      clear hK K
      try simp only [Act.put, List.setIfInBounds_toArray, List.set_cons_zero, List.set_cons_succ]
      refine wpAnyH_ready (rs := [16]) (by kernel_rfl) (by simp) ?_
      refine AllReadyH.cons (o := ⟨some 27, Op.call { callee := Callee.value (Operand.func 30), args := #[(Operand.tmp 26)], argTypes := #[9] }, _, _, _, _⟩) rfl (fun K hK => ?_) ?_
      · go_simp
        (with_reducible refine (HN5.out _).mono ?_); rintro e w9 ⟨rfl, rfl⟩
        go_wp2_with fail
        refine hK.out _ _ trivial (fun hHeld => ?_)
        clear hK K
        try simp only [Act.put, List.setIfInBounds_toArray, List.set_cons_zero, List.set_cons_succ]
        refine wpAnyH_take (i := 28) (oi := ⟨some 39, Op.build 31 #[(0, (Operand.tmp 12)), (1, (Operand.tmp 16)), (2, (Operand.tmp 20)), (3, (Operand.tmp 24)), (4, (Operand.tmp 27)), (5, (Operand.tmp 30)), (6, (Operand.tmp 34)), (7, (Operand.tmp 38))], _, _, _, _⟩) (v := ?v28) rfl (by kernel_rfl) (by kernel_rfl) (by kernel_rfl) (fun _ _ _ h => h) (Or.inl ⟨by rfl, ?hy28⟩) (by assumption) ?rest28
        case hy28 => ((intro w0 hSw; go_simp); try (with_reducible rfl))
        try simp only [Act.put, List.setIfInBounds_toArray, List.set_cons_zero, List.set_cons_succ]
        refine wpAnyH_ready (rs := [30]) (by kernel_rfl) (by simp) ?_
        refine AllReadyH.cons (o := ⟨none, Op.store t (Operand.tmp 4) (Operand.tmp 39), _, _, _, _⟩) rfl (fun K hK => ?_) ?_
        · go_simp
          refine hK.out _ _ trivial (fun hHeld => ?_)
          clear hK K
          try simp only [Act.put, List.setIfInBounds_toArray, List.set_cons_zero, List.set_cons_succ]
          refine wpAnyH_done (by kernel_rfl) ?_ _
          have HB : Hid ((wb.alloc (.cells A 31)).drew.heap[wb.heap.size]? = some (.cells (na (tki l 0)) 31 (0, 0)) ∧ wb.grownBy (wb.alloc (.cells A 31)).drew none) := Lib.hid (HA.out ▸ ⟨heap_alloc_new wb _, grown_drew (grown_alloc (grown_refl _ _) _)⟩)
          clear hA hst hAs hagg hsize e1 e2 e3 e4 e5 e6 g0 g1 g2 g13 x3 x5 a1 a2 HN3 HN5 hwb
          generalize (wb.alloc (.cells A 31)).drew = w2 at HB ⊢
          clear HA HTT
          go_wp2_with fail
          go_loopw [5, 6, 40] (fun _ _ c wr => ∃ k : Nat, k ≤ 16 ∧ c = .int .i64 (k : Int) ∧ wr.heap[wb.heap.size]? = some (.cells (na (tki l k)) 31 (0, 0)) ∧ wb.grownBy wr none) (fun _ _ c _ => 16 - (intOf c).toNat)
          case atStart => exact ⟨0, by omega, rfl, HB.out.1, HB.out.2⟩
          case round =>
            obtain ⟨k, hk, rfl, hb, hg⟩ := hrel
            have HBK : Hid _ := Lib.hid (And.intro hb hg)
            clear hb hg
            by_cases hlt : k < 16
            · obtain ⟨⟨v0, hc⟩, hf⟩ := tki_cell hlt HBK.out.1
              have hsl := fun w => slice_part l (14 + 4 * k) 4 (by rw [hl]; omega) ((14 : Int) + (k : Int) * 4) ((14 : Int) + (k : Int) * 4 + 4) (by omega) (by omega) w
              have hsi : (k : Int) * 4 = ((k * 4 : Nat) : Int) := by omega
              have HNK := Lib.hid (number_part l (14 + 4 * k) 4 (by omega))
              have HS := Lib.hid (tki_succ l k hlt)
              have hpv : IntKind.u32.wrap (pv l (14 + 4 * k) 4 : Int) = pv l (14 + 4 * k) 4 := IntWalk.u32_in _ (by have := pv_lt l (14 + 4 * k) 4; omega)
              generalize (l.drop (14 + 4 * k)).take 4 = y at *
              generalize pv l (14 + 4 * k) 4 = p at *
              clear hsz hl hsi
              go_wp2_with (go_at_call 30; ((with_reducible refine (HNK.out _).mono ?_); rintro e w9 ⟨rfl, rfl⟩))
              go_roundw
              case rel => exact ⟨k + 1, by omega, by go_num, by rw [← HS.out]; exact blk_setCell _ HBK.out.1, grown_new HBK.out.2 (Nat.le_refl _) (grown_setCells _ _ (8 + k) [_])⟩
              case measure => simp [intOf]; omega
            · obtain rfl : k = 16 := by omega
              have HK : Hid (wr.heap[wb.heap.size]? = some (.cells (na (tk l)) 31 (0, 0)) ∧ wb.grownBy wr none) := Lib.hid (by rw [← tki_all]; exact HBK.out)
              have hr := range_of HK.out.1
              clear hsz hl
              have HWR : Hid (w.grownBy wr none ∧ Tab wr) := Lib.hid (by
                have h0 : w.grownBy wb none := HWB.out ▸ grown_alloc (grown_refl _ _) _
                have h1 := grown_trans h0 HK.out.2
                exact ⟨h1, HW.out.grown h1⟩)
              have HE0 : Hid (∀ w10, wr.grownBy w10 none → w10.rangeAt wb.heap.size 0 (nt (tk l)) ∧ w10.heap[w.heap.size]? = some (.cells (na zn) 31 (0, 0)) ∧ w.grownBy w10 none) := Lib.hid fun w10 hg => by
                have hz : wb.heap[w.heap.size]? = some (.cells (na zn) 31 (0, 0)) := HWB.out ▸ heap_alloc_new _ _
                exact ⟨range_grown (range_of HK.out.1) hg (by simp), ((grown_trans HK.out.2 hg).block _ (lt_of hz) (by simp)).trans hz, grown_trans HWR.out.1 hg⟩
              have HM := Lib.hid (may_any (tk l) wr HWR.out.2)
              by_cases hok : (tk l).ok
              · rw [yes_of hok] at HM
                have HOK := Lib.hid hok
                clear hok
                go_wp2_with (first
                  | ((with_reducible refine load_nt (tk l) 4 wb.heap.size ?_ hr ?_); (rfl))
                  | (go_at_call 14; ((with_reducible refine HM.out.mono ?_); rintro e w10 ⟨rfl, hg10⟩; have HE := Lib.hid (HE0.out w10 hg10); clear hg10 hr))
                  | ((with_reducible refine load_nt (tk l) 4 wb.heap.size ?_ HE.out.1 ?_); (rfl))
                  | ((with_reducible refine store_any (tk l) _ 2 61 w.heap.size ?_ ?_ HE.out.2.1 ?_ ?_); (rfl); (rfl); (rfl)))
                exact ret_nt2 rfl _ (tk l) _ w.heap.size _ _ (by rfl) (by rfl) (range_of (setRow_heap _ _ _ _ _ _ HE.out.2.1)) ⟨by rfl, grown_setRow HE.out.2.2 _ (Nat.le_refl _) _⟩
              · rw [yes_not hok] at HM
                have HOK := Lib.hid hok
                clear hok
                go_wp2_with (first
                  | ((with_reducible refine load_nt (tk l) 4 wb.heap.size ?_ hr ?_); (rfl))
                  | (go_at_call 14; ((with_reducible refine HM.out.mono ?_); rintro e w10 ⟨rfl, hg10⟩; have HE := Lib.hid (HE0.out w10 hg10); clear hg10 hr))
                  | ((with_reducible refine store_any zn _ 2 60 w.heap.size ?_ ?_ HE.out.2.1 ?_ ?_); (rfl); (rfl); (rfl)))
                exact ret_nt2 rfl _ zn _ w.heap.size _ _ (by rfl) (by rfl) (range_of (setRow_heap _ _ _ _ _ _ HE.out.2.1)) ⟨by rfl, grown_setRow HE.out.2.2 _ (Nat.le_refl _) _⟩
        exact AllReadyH.nil
      exact AllReadyH.nil
    exact AllReadyH.nil
  refine AllReadyH.cons (o := ⟨some 4, Op.alloc 31, _, _, _, _⟩) rfl (fun K hK => ?_) ?_
  · go_simp
    refine hK.out _ _ trivial (fun hHeld => ?_)
    clear hK K
    try simp only [Act.put, List.setIfInBounds_toArray, List.set_cons_zero, List.set_cons_succ]
    refine wpAnyH_ready (rs := [12]) (by kernel_rfl) (by simp) ?_
    refine AllReadyH.cons (o := ⟨some 23, Op.call { callee := Callee.value (Operand.func 30), args := #[(Operand.tmp 22)], argTypes := #[9] }, _, _, _, _⟩) rfl (fun K hK => ?_) ?_
    · go_simp
      (with_reducible refine (HN3.out _).mono ?_); rintro e w9 ⟨rfl, rfl⟩
      go_wp2_with fail
      refine hK.out _ _ trivial (fun hHeld => ?_)
      clear hK K
      try simp only [Act.put, List.setIfInBounds_toArray, List.set_cons_zero, List.set_cons_succ]
      refine wpAnyH_take (i := 13) (oi := ⟨some 24, Op.convert 25 3 (Operand.tmp 23), _, _, _, _⟩) (v := ?v29) rfl (by kernel_rfl) (by kernel_rfl) (by kernel_rfl) (fun _ _ _ h => h) (Or.inl ⟨by rfl, ?hy29⟩) (by assumption) ?rest29
      case hy29 => ((intro w0 hSw; go_simp); try (with_reducible rfl))
      try simp only [Act.put, List.setIfInBounds_toArray, List.set_cons_zero, List.set_cons_succ]
      refine wpAnyH_ready (rs := [16]) (by kernel_rfl) (by simp) ?_
      refine AllReadyH.cons (o := ⟨some 27, Op.call { callee := Callee.value (Operand.func 30), args := #[(Operand.tmp 26)], argTypes := #[9] }, _, _, _, _⟩) rfl (fun K hK => ?_) ?_
      · go_simp
        (with_reducible refine (HN5.out _).mono ?_); rintro e w9 ⟨rfl, rfl⟩
        go_wp2_with fail
        refine hK.out _ _ trivial (fun hHeld => ?_)
        clear hK K
        try simp only [Act.put, List.setIfInBounds_toArray, List.set_cons_zero, List.set_cons_succ]
        refine wpAnyH_take (i := 28) (oi := ⟨some 39, Op.build 31 #[(0, (Operand.tmp 12)), (1, (Operand.tmp 16)), (2, (Operand.tmp 20)), (3, (Operand.tmp 24)), (4, (Operand.tmp 27)), (5, (Operand.tmp 30)), (6, (Operand.tmp 34)), (7, (Operand.tmp 38))], _, _, _, _⟩) (v := ?v30) rfl (by kernel_rfl) (by kernel_rfl) (by kernel_rfl) (fun _ _ _ h => h) (Or.inl ⟨by rfl, ?hy30⟩) (by assumption) ?rest30
        case hy30 => ((intro w0 hSw; go_simp); try (with_reducible rfl))
        try simp only [Act.put, List.setIfInBounds_toArray, List.set_cons_zero, List.set_cons_succ]
        refine wpAnyH_ready (rs := [30]) (by kernel_rfl) (by simp) ?_
        refine AllReadyH.cons (o := ⟨none, Op.store t (Operand.tmp 4) (Operand.tmp 39), _, _, _, _⟩) rfl (fun K hK => ?_) ?_
        · go_simp
          refine hK.out _ _ trivial (fun hHeld => ?_)
          clear hK K
          try simp only [Act.put, List.setIfInBounds_toArray, List.set_cons_zero, List.set_cons_succ]
          refine wpAnyH_done (by kernel_rfl) ?_ _
          have HB : Hid ((wb.alloc (.cells A 31)).drew.heap[wb.heap.size]? = some (.cells (na (tki l 0)) 31 (0, 0)) ∧ wb.grownBy (wb.alloc (.cells A 31)).drew none) := Lib.hid (HA.out ▸ ⟨heap_alloc_new wb _, grown_drew (grown_alloc (grown_refl _ _) _)⟩)
          clear hA hst hAs hagg hsize e1 e2 e3 e4 e5 e6 g0 g1 g2 g13 x3 x5 a1 a2 HN3 HN5 hwb
          generalize (wb.alloc (.cells A 31)).drew = w2 at HB ⊢
          clear HA HTT
          go_wp2_with fail
          go_loopw [5, 6, 40] (fun _ _ c wr => ∃ k : Nat, k ≤ 16 ∧ c = .int .i64 (k : Int) ∧ wr.heap[wb.heap.size]? = some (.cells (na (tki l k)) 31 (0, 0)) ∧ wb.grownBy wr none) (fun _ _ c _ => 16 - (intOf c).toNat)
          case atStart => exact ⟨0, by omega, rfl, HB.out.1, HB.out.2⟩
          case round =>
            obtain ⟨k, hk, rfl, hb, hg⟩ := hrel
            have HBK : Hid _ := Lib.hid (And.intro hb hg)
            clear hb hg
            by_cases hlt : k < 16
            · obtain ⟨⟨v0, hc⟩, hf⟩ := tki_cell hlt HBK.out.1
              have hsl := fun w => slice_part l (14 + 4 * k) 4 (by rw [hl]; omega) ((14 : Int) + (k : Int) * 4) ((14 : Int) + (k : Int) * 4 + 4) (by omega) (by omega) w
              have hsi : (k : Int) * 4 = ((k * 4 : Nat) : Int) := by omega
              have HNK := Lib.hid (number_part l (14 + 4 * k) 4 (by omega))
              have HS := Lib.hid (tki_succ l k hlt)
              have hpv : IntKind.u32.wrap (pv l (14 + 4 * k) 4 : Int) = pv l (14 + 4 * k) 4 := IntWalk.u32_in _ (by have := pv_lt l (14 + 4 * k) 4; omega)
              generalize (l.drop (14 + 4 * k)).take 4 = y at *
              generalize pv l (14 + 4 * k) 4 = p at *
              clear hsz hl hsi
              go_wp2_with (go_at_call 30; ((with_reducible refine (HNK.out _).mono ?_); rintro e w9 ⟨rfl, rfl⟩))
              go_roundw
              case rel => exact ⟨k + 1, by omega, by go_num, by rw [← HS.out]; exact blk_setCell _ HBK.out.1, grown_new HBK.out.2 (Nat.le_refl _) (grown_setCells _ _ (8 + k) [_])⟩
              case measure => simp [intOf]; omega
            · obtain rfl : k = 16 := by omega
              have HK : Hid (wr.heap[wb.heap.size]? = some (.cells (na (tk l)) 31 (0, 0)) ∧ wb.grownBy wr none) := Lib.hid (by rw [← tki_all]; exact HBK.out)
              have hr := range_of HK.out.1
              clear hsz hl
              have HWR : Hid (w.grownBy wr none ∧ Tab wr) := Lib.hid (by
                have h0 : w.grownBy wb none := HWB.out ▸ grown_alloc (grown_refl _ _) _
                have h1 := grown_trans h0 HK.out.2
                exact ⟨h1, HW.out.grown h1⟩)
              have HE0 : Hid (∀ w10, wr.grownBy w10 none → w10.rangeAt wb.heap.size 0 (nt (tk l)) ∧ w10.heap[w.heap.size]? = some (.cells (na zn) 31 (0, 0)) ∧ w.grownBy w10 none) := Lib.hid fun w10 hg => by
                have hz : wb.heap[w.heap.size]? = some (.cells (na zn) 31 (0, 0)) := HWB.out ▸ heap_alloc_new _ _
                exact ⟨range_grown (range_of HK.out.1) hg (by simp), ((grown_trans HK.out.2 hg).block _ (lt_of hz) (by simp)).trans hz, grown_trans HWR.out.1 hg⟩
              have HM := Lib.hid (may_any (tk l) wr HWR.out.2)
              by_cases hok : (tk l).ok
              · rw [yes_of hok] at HM
                have HOK := Lib.hid hok
                clear hok
                go_wp2_with (first
                  | ((with_reducible refine load_nt (tk l) 4 wb.heap.size ?_ hr ?_); (rfl))
                  | (go_at_call 14; ((with_reducible refine HM.out.mono ?_); rintro e w10 ⟨rfl, hg10⟩; have HE := Lib.hid (HE0.out w10 hg10); clear hg10 hr))
                  | ((with_reducible refine load_nt (tk l) 4 wb.heap.size ?_ HE.out.1 ?_); (rfl))
                  | ((with_reducible refine store_any (tk l) _ 2 61 w.heap.size ?_ ?_ HE.out.2.1 ?_ ?_); (rfl); (rfl); (rfl)))
                exact ret_nt2 rfl _ (tk l) _ w.heap.size _ _ (by rfl) (by rfl) (range_of (setRow_heap _ _ _ _ _ _ HE.out.2.1)) ⟨by rfl, grown_setRow HE.out.2.2 _ (Nat.le_refl _) _⟩
              · rw [yes_not hok] at HM
                have HOK := Lib.hid hok
                clear hok
                go_wp2_with (first
                  | ((with_reducible refine load_nt (tk l) 4 wb.heap.size ?_ hr ?_); (rfl))
                  | (go_at_call 14; ((with_reducible refine HM.out.mono ?_); rintro e w10 ⟨rfl, hg10⟩; have HE := Lib.hid (HE0.out w10 hg10); clear hg10 hr))
                  | ((with_reducible refine store_any zn _ 2 60 w.heap.size ?_ ?_ HE.out.2.1 ?_ ?_); (rfl); (rfl); (rfl)))
                exact ret_nt2 rfl _ zn _ w.heap.size _ _ (by rfl) (by rfl) (range_of (setRow_heap _ _ _ _ _ _ HE.out.2.1)) ⟨by rfl, grown_setRow HE.out.2.2 _ (Nat.le_refl _) _⟩
        exact AllReadyH.nil
      exact AllReadyH.nil
    exact AllReadyH.nil
  exact AllReadyH.nil
end Go.Proofs.YthmnjoanehepcaaDoor.nn
