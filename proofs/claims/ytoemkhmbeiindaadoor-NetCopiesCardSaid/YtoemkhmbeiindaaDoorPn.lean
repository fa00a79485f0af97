/-
  What a pool of notes answers to New, Len, Room, At, Put, Take, Copy: contracts. No condition but the bounds that each theorem names.
-/
import Derived.Test.YtoemkhmbeiindaaDoorSl
import Derived.Test.YtoemkhmbeiindaaDoorNa3
namespace Go.Proofs.YtoemkhmbeiindaaDoor.tt
open Go Go.ChangeShapes Go.WideShapes Go.ChangeAt Go.RowKit
set_option linter.unusedVariables false

abbrev NSl (w : World) (v : Value) (ns : List Nt) : Prop := Sl w 37 24 v ns.length (flat nt ns)
abbrev NPool (w : World) (b : Nat) (v : Value) (room : Nat) (ns : List Nt) : Prop := Pool w 96 37 24 b v room ns.length (flat nt ns)
theorem nflat_one (ns : List Nt) : ∀ v ∈ flat nt ns, v.oneCell' = true := flat_one nt_one ns
theorem infoN : (Tryd.prog.info? 37).map (fun i => (i.zero, i.size, i.bytes)) = some (some (.agg (na zn)), 24, 112) := by kernel_rfl
theorem zn_cells : (Value.agg (na zn)).cells.size = 24 := by rfl
theorem nsl_at {w : World} {ad : Option Addr} {m cap : Nat} {ns : List Nt} (h : NSl w (.slice ad m cap) ns) (k : Nat) (x : Nt) (hk : ns[k]? = some x) :
    ∃ g off, ad = some ⟨g, off, none⟩ ∧ m = ns.length ∧ w.rangeAt g (off + k * 24) (nt x) := by
  obtain ⟨v0, h0⟩ : ∃ v, (nt x)[0]? = some v := ⟨_, rfl⟩
  obtain ⟨g, off, ha, hm, hc⟩ := Sl.cellAt h _ _ (flat_at nt_len ns k x 0 v0 hk h0)
  exact ⟨g, off, ha, hm, fun j v hv => by rw [Nat.add_assoc]; exact hc _ _ (flat_at nt_len ns k x j v hk hv)⟩

section
variable {w : World} {ops : Array Oper} {rest : List Oper} {a : Act} {Q : Exit → Act → World → Prop} {dst : Option Tmp} {ty : TypeId} {pos : String} {after : Array Edge}
/-- A note out of a row. -/
theorem load_na (n : Nt) (x : Tmp) (g o : Nat) (hx : a.eval (.tmp x) = .pointer (some ⟨g, o, none⟩)) (hg : w.rangeAt g o (nt n))
    (h : wpList Tryd.prog ops Q rest (a.put dst (.agg (na n))) w) : wpList Tryd.prog ops Q (⟨dst, .load 37 (.tmp x), ty, pos, after, none⟩ :: rest) a w :=
  wpList_load_mid rfl 37 (.tmp x) rfl g o hx (nt n) _ hg Tryd.underlying37 rfl (info31' n) h
end
/-- A result: a note out of its variable, and a number. -/
theorem ret_nte {fn : Func} {p q : Tmp} (hres : fn.results = #[.cell p 37, .tmp q]) (w : World) (n : Nt) (v : Value) (B : Nat) (tmps : Array Value) (Q : Ending → World → Prop) (h4 : tmps.getD p undef = .pointer (some ⟨B, 0, none⟩)) (h5 : tmps.getD q undef = v)
    (hr : w.rangeAt B 0 (nt n)) (hQ : Q (.returned (.tuple #[.agg (na n), v])) w) : bodyPost Tryd.prog fn Q .ret { tmps := tmps, defers := [] } w := by
  refine bodyPost_ret (v := .tuple #[.agg (na n), v]) ?_ rfl hQ
  have := run_loadVar_mid (P := Tryd.prog) w B 0 37 (nt n) _ hr Tryd.underlying37 rfl (info31' n)
  have h4' : tmps[p]?.getD undef = .pointer (some ⟨B, 0, none⟩) := by simpa using h4
  have h5' : tmps[q]?.getD undef = v := by simpa using h5
  simp [results, hres, h4', h5', asAddr, this, na]

theorem pnew_ok (room : Nat) (w : World) (h1 : 1 ≤ room) (h2 : room ≤ 65536) : Calls Tryd.prog 31 #[.int .i64 (room : Int)] w fun e w' => e = .returned (.tuple #[.pointer (some ⟨w.heap.size, 0, none⟩), .int .i64 0]) ∧ w' = w.alloc (.cells #[.slice none 0 0, .int .i64 (room : Int)] 96) := by
  go_enter Tryd.func31, Tryd.ntmps31
  go_wp2
  go_ret2
  exact ⟨rfl, rfl⟩

section
variable (b : Nat) (v : Value) (room : Nat) (ns : List Nt) (w : World) (hP : NPool w b v room ns)
include hP
theorem plen_any : Calls Tryd.prog 37 #[.pointer (some ⟨b, 0, none⟩)] w fun e w' => e = .returned (.int .i64 (ns.length : Int)) ∧ w = w' := by
  obtain ⟨ad, cap, rfl⟩ := hP.sl.form
  have hc := hP.cell0
  clear hP
  go_enter Tryd.func37, Tryd.ntmps37
  go_wp2
  go_ret
  exact ⟨rfl, rfl⟩
theorem proom_any (hl : ns.length ≤ room) (hr : room ≤ 65536) : Calls Tryd.prog 55 #[.pointer (some ⟨b, 0, none⟩)] w fun e w' => e = .returned (.int .i64 ((room : Int) - (ns.length : Int))) ∧ ∃ n, w' = w.drewN n := by
  obtain ⟨ad, cap, rfl⟩ := hP.sl.form
  have hc := hP.cell0
  have hc1 := hP.cell1
  clear hP
  obtain ⟨q, hq⟩ : ∃ q, q = ns.length := ⟨_, rfl⟩
  rw [← hq] at hc hl ⊢
  clear hq
  go_enter Tryd.func55, Tryd.ntmps55
  go_wp2_with fail
  go_quiet (fail)
  go_wp2_with fail
  go_ret
  exact ⟨rfl, _, rfl⟩
end
/-- Two new variables of a note each. -/
theorem twoz (w : World) : ∃ w2, (w.alloc (.cells (na zn) 37)).alloc (.cells (na zn) 37) = w2 ∧ Two w w2 zn := two_of w zn
theorem Two.set {w w2 : World} {n : Nt} (h : Two w w2 n) (m : Nt) : (w2.setRow w.heap.size (na m)).rangeAt w.heap.size 0 (nt m) ∧ w.grownBy (w2.setRow w.heap.size (na m)) none :=
  ⟨range_of (setRow_heap _ _ _ _ _ _ h.old), grown_setRow h.grown _ (Nat.le_refl _) _⟩
set_option maxRecDepth 100000 in
set_option maxHeartbeats 1000000 in
theorem pat_out (b : Nat) (v : Value) (room : Nat) (ns : List Nt) (i : Int) (w : World) (hP : NPool w b v room ns) (h : i < 0 ∨ (ns.length : Int) ≤ i) : Calls Tryd.prog 36 #[.pointer (some ⟨b, 0, none⟩), .int .i64 i] w fun e w' => e = .returned (.tuple #[.agg (na zn), .int .i64 5]) ∧ w.grownBy w' none := by
  obtain ⟨w2, hw, h2⟩ := twoz w
  have hP2 := hP.grown h2.grown
  obtain ⟨ad, cap, rfl⟩ := hP2.sl.form
  have hc := hP2.cell0
  have hz : na zn = _ := bare_na 0 0 0 0 0 0 false false
  rw [hz] at hw
  have HT := Lib.hid h2
  clear hP hP2 h2 hz
  obtain ⟨q, hq⟩ : ∃ q, q = ns.length := ⟨_, rfl⟩
  rw [← hq] at hc h
  clear hq
  have HR : Hid (w2.rangeAt (w.heap.size + 1) 0 (nt zn)) := Lib.hid (range_of HT.out.res)
  by_cases h0 : i < 0
  · clear h
    go_enter Tryd.func36, Tryd.ntmps36
    go_wp2_with (first
      | ((with_reducible refine load_nt zn _ (w.heap.size + 1) ?_ HR.out ?_); (rfl))
      | ((with_reducible refine store_any zn _ _ _ w.heap.size ?_ ?_ HT.out.old ?_ ?_); (rfl); (rfl); (rfl)))
    exact ret_nte rfl _ zn _ w.heap.size _ _ (by rfl) (by rfl) (HT.out.set zn).1 ⟨rfl, (HT.out.set zn).2⟩
  · have h1 : decide (i < 0) = false := by simp; omega
    have h2 : decide ((q : Int) ≤ i) = true := by simp; omega
    clear h h0
    go_enter Tryd.func36, Tryd.ntmps36
    go_wp2_with (first
      | ((with_reducible refine load_nt zn _ (w.heap.size + 1) ?_ HR.out ?_); (rfl))
      | ((with_reducible refine store_any zn _ _ _ w.heap.size ?_ ?_ HT.out.old ?_ ?_); (rfl); (rfl); (rfl)))
    exact ret_nte rfl _ zn _ w.heap.size _ _ (by rfl) (by rfl) (HT.out.set zn).1 ⟨rfl, (HT.out.set zn).2⟩
set_option maxRecDepth 100000 in
set_option maxHeartbeats 1000000 in
theorem pat_in (b : Nat) (v : Value) (room : Nat) (ns : List Nt) (k : Nat) (x : Nt) (w : World) (hP : NPool w b v room ns) (hx : ns[k]? = some x) : Calls Tryd.prog 36 #[.pointer (some ⟨b, 0, none⟩), .int .i64 (k : Int)] w fun e w' => e = .returned (.tuple #[.agg (na x), .int .i64 0]) ∧ w.grownBy w' none := by
  obtain ⟨w2, hw, h2⟩ := twoz w
  have hP2 := hP.grown h2.grown
  obtain ⟨ad, cap, rfl⟩ := hP2.sl.form
  obtain ⟨g, off, rfl, _, hr⟩ := nsl_at hP2.sl k x hx
  have hc := hP2.cell0
  have hk : k < ns.length := (List.getElem?_eq_some_iff.1 hx).1
  have hz : na zn = _ := bare_na 0 0 0 0 0 0 false false
  rw [hz] at hw
  have HT := Lib.hid h2
  have HR := Lib.hid hr
  clear hP hP2 h2 hz hx hr
  obtain ⟨q, hq⟩ : ∃ q, q = ns.length := ⟨_, rfl⟩
  rw [← hq] at hc hk
  clear hq
  go_enter Tryd.func36, Tryd.ntmps36
  go_wp2_with (first
    | ((with_reducible refine load_na x _ g (off + k * 24) ?_ HR.out ?_); (rfl))
    | ((with_reducible refine store_any x _ _ _ w.heap.size ?_ ?_ HT.out.old ?_ ?_); (rfl); (rfl); (rfl)))
  exact ret_nte rfl _ x _ w.heap.size _ _ (by rfl) (by rfl) (HT.out.set x).1 ⟨rfl, (HT.out.set x).2⟩
end Go.Proofs.YtoemkhmbeiindaaDoor.tt
