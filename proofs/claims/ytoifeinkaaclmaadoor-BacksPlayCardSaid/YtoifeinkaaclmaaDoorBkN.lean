/-
  What a pool of backs answers to New, Len, Room, At, Put, Take, Copy: contracts. No condition but the bounds that each theorem names.
-/
import Derived.Test.YtoifeinkaaclmaaDoorBkA
namespace Go.Proofs.YtoifeinkaaclmaaDoor.bk
open Go Go.ChangeShapes Go.WideShapes Go.ChangeAt Go.RowKit
open Go.Proofs.YtoifeinkaaclmaaDoor.tt (U zd row tyne add_lit lt_of range_grown setCells_rest heap_setCells_other grown_setCells grown_setRow grown_new grown_drewN below_of grown_alloc grown_refl grown_trans grown_drew Sl run_append_sl append_sl step_append_sl tail_sl head_sl Pool Turn Next src_one src_one' flat flat_len flat_at flat_take flat_drop flat_append flat_one flat_single flat_erase heap_setCells)
set_option linter.unusedVariables false

abbrev BSl (w : World) (v : Value) (ns : List Bk) : Prop := Sl w 57 18 v ns.length (flat bt ns)
abbrev BPool (w : World) (b : Nat) (v : Value) (room : Nat) (ns : List Bk) : Prop := Pool w 79 57 18 b v room ns.length (flat bt ns)
theorem bflat_one (ns : List Bk) : ∀ v ∈ flat bt ns, v.oneCell' = true := flat_one bt_one ns
theorem infoN : (Tryd.prog.info? 57).map (fun i => (i.zero, i.size, i.bytes)) = some (some (.agg (ba zb)), 18, 80) := by kernel_rfl
theorem zb_cells : (Value.agg (ba zb)).cells.size = 18 := by rfl
theorem bsl_at {w : World} {ad : Option Addr} {m cap : Nat} {ns : List Bk} (h : BSl w (.slice ad m cap) ns) (k : Nat) (x : Bk) (hk : ns[k]? = some x) :
    ∃ g off, ad = some ⟨g, off, none⟩ ∧ m = ns.length ∧ w.rangeAt g (off + k * 18) (bt x) := by
  obtain ⟨v0, h0⟩ : ∃ v, (bt x)[0]? = some v := ⟨_, rfl⟩
  obtain ⟨g, off, ha, hm, hc⟩ := Sl.cellAt h _ _ (flat_at bt_len ns k x 0 v0 hk h0)
  exact ⟨g, off, ha, hm, fun j v hv => by rw [Nat.add_assoc]; exact hc _ _ (flat_at bt_len ns k x j v hk hv)⟩

section
variable {w : World} {ops : Array Oper} {rest : List Oper} {a : Act} {Q : Exit → Act → World → Prop} {dst : Option Tmp} {ty : TypeId} {pos : String} {after : Array Edge}
/-- A back out of a row. -/
theorem load_ba (n : Bk) (x : Tmp) (g o : Nat) (hx : a.eval (.tmp x) = .pointer (some ⟨g, o, none⟩)) (hg : w.rangeAt g o (bt n))
    (h : wpList Tryd.prog ops Q rest (a.put dst (.agg (ba n))) w) : wpList Tryd.prog ops Q (⟨dst, .load 57 (.tmp x), ty, pos, after, none⟩ :: rest) a w :=
  wpList_load_mid rfl 57 (.tmp x) rfl g o hx (bt n) _ hg Tryd.underlying57 rfl (info31' n) h
end
/-- A result: a back out of its variable, and a number. -/
theorem ret_bte {fn : Func} {p q : Tmp} (hres : fn.results = #[.cell p 57, .tmp q]) (w : World) (n : Bk) (v : Value) (B : Nat) (tmps : Array Value) (Q : Ending → World → Prop) (h4 : tmps.getD p undef = .pointer (some ⟨B, 0, none⟩)) (h5 : tmps.getD q undef = v)
    (hr : w.rangeAt B 0 (bt n)) (hQ : Q (.returned (.tuple #[.agg (ba n), v])) w) : bodyPost Tryd.prog fn Q .ret { tmps := tmps, defers := [] } w := by
  refine bodyPost_ret (v := .tuple #[.agg (ba n), v]) ?_ rfl hQ
  have := run_loadVar_mid (P := Tryd.prog) w B 0 57 (bt n) _ hr Tryd.underlying57 rfl (info31' n)
  have h4' : tmps[p]?.getD undef = .pointer (some ⟨B, 0, none⟩) := by simpa using h4
  have h5' : tmps[q]?.getD undef = v := by simpa using h5
  simp [results, hres, h4', h5', asAddr, this, ba]

theorem pnew_ok (room : Nat) (w : World) (h1 : 1 ≤ room) (h2 : room ≤ 65536) : Calls Tryd.prog 28 #[.int .i64 (room : Int)] w fun e w' => e = .returned (.tuple #[.pointer (some ⟨w.heap.size, 0, none⟩), .int .i64 0]) ∧ w' = w.alloc (.cells #[.slice none 0 0, .int .i64 (room : Int)] 79) := by
  go_enter Tryd.func28, Tryd.ntmps28
  go_wp2
  go_ret2
  exact ⟨rfl, rfl⟩

section
variable (b : Nat) (v : Value) (room : Nat) (ns : List Bk) (w : World) (hP : BPool w b v room ns)
include hP
theorem plen_any : Calls Tryd.prog 34 #[.pointer (some ⟨b, 0, none⟩)] w fun e w' => e = .returned (.int .i64 (ns.length : Int)) ∧ w = w' := by
  obtain ⟨ad, cap, rfl⟩ := hP.sl.form
  have hc := hP.cell0
  clear hP
  go_enter Tryd.func34, Tryd.ntmps34
  go_wp2
  go_ret
  exact ⟨rfl, rfl⟩
theorem proom_any (hl : ns.length ≤ room) (hr : room ≤ 65536) : Calls Tryd.prog 33 #[.pointer (some ⟨b, 0, none⟩)] w fun e w' => e = .returned (.int .i64 ((room : Int) - (ns.length : Int))) ∧ ∃ n, w' = w.drewN n := by
  obtain ⟨ad, cap, rfl⟩ := hP.sl.form
  have hc := hP.cell0
  have hc1 := hP.cell1
  clear hP
  obtain ⟨q, hq⟩ : ∃ q, q = ns.length := ⟨_, rfl⟩
  rw [← hq] at hc hl ⊢
  clear hq
  go_enter Tryd.func33, Tryd.ntmps33
  go_wp2_with fail
  go_quiet (fail)
  go_wp2_with fail
  go_ret
  exact ⟨rfl, _, rfl⟩
end
/-- Two new variables of a back each. -/
theorem twoz (w : World) : ∃ w2, (w.alloc (.cells (ba zb) 57)).alloc (.cells (ba zb) 57) = w2 ∧ Two w w2 zb := two_of w zb
theorem Two.set {w w2 : World} {n : Bk} (h : Two w w2 n) (m : Bk) : (w2.setRow w.heap.size (ba m)).rangeAt w.heap.size 0 (bt m) ∧ w.grownBy (w2.setRow w.heap.size (ba m)) none :=
  ⟨range_of (setRow_heap _ _ _ _ _ _ h.old), grown_setRow h.grown _ (Nat.le_refl _) _⟩
set_option maxRecDepth 100000 in
set_option maxHeartbeats 1000000 in
theorem pat_out (b : Nat) (v : Value) (room : Nat) (ns : List Bk) (i : Int) (w : World) (hP : BPool w b v room ns) (h : i < 0 ∨ (ns.length : Int) ≤ i) : Calls Tryd.prog 32 #[.pointer (some ⟨b, 0, none⟩), .int .i64 i] w fun e w' => e = .returned (.tuple #[.agg (ba zb), .int .i64 5]) ∧ w.grownBy w' none := by
  obtain ⟨w2, hw, h2⟩ := twoz w
  have hP2 := hP.grown h2.grown
  obtain ⟨ad, cap, rfl⟩ := hP2.sl.form
  have hc := hP2.cell0
  have hz : ba zb = _ := zb_ba
  rw [hz] at hw
  have HT := Lib.hid h2
  clear hP hP2 h2 hz
  obtain ⟨q, hq⟩ : ∃ q, q = ns.length := ⟨_, rfl⟩
  rw [← hq] at hc h
  clear hq
  have HR : Hid (w2.rangeAt (w.heap.size + 1) 0 (bt zb)) := Lib.hid (range_of HT.out.res)
  by_cases h0 : i < 0
  · clear h
    go_enter Tryd.func32, Tryd.ntmps32
    go_wp2_with (first
      | ((with_reducible refine load_bt zb _ (w.heap.size + 1) ?_ HR.out ?_); (rfl))
      | ((with_reducible refine store_any zb _ _ _ w.heap.size ?_ ?_ HT.out.old ?_ ?_); (rfl); (rfl); (rfl)))
    exact ret_bte rfl _ zb _ w.heap.size _ _ (by rfl) (by rfl) (HT.out.set zb).1 ⟨rfl, (HT.out.set zb).2⟩
  · have h1 : decide (i < 0) = false := by simp; omega
    have h2 : decide ((q : Int) ≤ i) = true := by simp; omega
    clear h h0
    go_enter Tryd.func32, Tryd.ntmps32
    go_wp2_with (first
      | ((with_reducible refine load_bt zb _ (w.heap.size + 1) ?_ HR.out ?_); (rfl))
      | ((with_reducible refine store_any zb _ _ _ w.heap.size ?_ ?_ HT.out.old ?_ ?_); (rfl); (rfl); (rfl)))
    exact ret_bte rfl _ zb _ w.heap.size _ _ (by rfl) (by rfl) (HT.out.set zb).1 ⟨rfl, (HT.out.set zb).2⟩
set_option maxRecDepth 100000 in
set_option maxHeartbeats 1000000 in
theorem pat_in (b : Nat) (v : Value) (room : Nat) (ns : List Bk) (k : Nat) (x : Bk) (w : World) (hP : BPool w b v room ns) (hx : ns[k]? = some x) : Calls Tryd.prog 32 #[.pointer (some ⟨b, 0, none⟩), .int .i64 (k : Int)] w fun e w' => e = .returned (.tuple #[.agg (ba x), .int .i64 0]) ∧ w.grownBy w' none := by
  obtain ⟨w2, hw, h2⟩ := twoz w
  have hP2 := hP.grown h2.grown
  obtain ⟨ad, cap, rfl⟩ := hP2.sl.form
  obtain ⟨g, off, rfl, _, hr⟩ := bsl_at hP2.sl k x hx
  have hc := hP2.cell0
  have hk : k < ns.length := (List.getElem?_eq_some_iff.1 hx).1
  have hz : ba zb = _ := zb_ba
  rw [hz] at hw
  have HT := Lib.hid h2
  have HR := Lib.hid hr
  clear hP hP2 h2 hz hx hr
  obtain ⟨q, hq⟩ : ∃ q, q = ns.length := ⟨_, rfl⟩
  rw [← hq] at hc hk
  clear hq
  go_enter Tryd.func32, Tryd.ntmps32
  go_wp2_with (first
    | ((with_reducible refine load_ba x _ g (off + k * 18) ?_ HR.out ?_); (rfl))
    | ((with_reducible refine store_any x _ _ _ w.heap.size ?_ ?_ HT.out.old ?_ ?_); (rfl); (rfl); (rfl)))
  exact ret_bte rfl _ x _ w.heap.size _ _ (by rfl) (by rfl) (HT.out.set x).1 ⟨rfl, (HT.out.set x).2⟩
end Go.Proofs.YtoifeinkaaclmaaDoor.bk
