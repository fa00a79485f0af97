/-
  What the document's Room of a net answers: a contract. Condition: none but what the theorem names.
-/
import Derived.Test.YtoemkhmbeiindaaDoorRa
namespace Go.Proofs.YtoemkhmbeiindaaDoor.tt
open Go Go.ChangeShapes Go.WideShapes Go.ChangeAt Go.RowKit Go.Shelf
set_option linter.unusedVariables false

set_option maxRecDepth 100000 in
set_option maxHeartbeats 1000000 in
theorem rroom_out (q : Nat) (c : Cfg) (r : Nat) (u : Value) (ns : List Nt) (h : Int) (w : World) (H : RNet w q c r u ns h) (node qn : Int) (hb : ¬ isPool c node qn) :
    Calls Tryd.prog 23 #[.pointer (some ⟨q, 0, none⟩), .int .i64 node, .int .i64 qn] w fun e w' => e = .returned (.int .i64 0) ∧ w = w' := by
  have c0 := H.c0
  unfold isPool at hb
  have hc : node < -1 ∨ (¬ node < -1 ∧ c.co ≤ node) ∨ ((¬ node < -1 ∧ ¬ c.co ≤ node) ∧ qn < 0) ∨ ((¬ node < -1 ∧ ¬ c.co ≤ node) ∧ ¬ qn < 0 ∧ 2 < qn) := by omega
  clear H hb
  rcases hc with h1 | ⟨h1, h2⟩ | ⟨⟨h1, h2⟩, h3⟩ | ⟨⟨h1, h2⟩, h3, h4⟩
  · have d1 : decide (node < -1) = true := by simp; omega
    clear h1
    go_enter Tryd.func23, Tryd.ntmps23
    go_wp2
    go_ret
    exact ⟨rfl, rfl⟩
  · have d1 : decide (node < -1) = false := by simp; omega
    have d2 : decide (c.co ≤ node) = true := by simp; omega
    clear h1 h2
    go_enter Tryd.func23, Tryd.ntmps23
    go_wp2
    go_ret
    exact ⟨rfl, rfl⟩
  · have d1 : decide (node < -1) = false := by simp; omega
    have d2 : decide (c.co ≤ node) = false := by simp; omega
    have d3 : decide (qn < 0) = true := by simp; omega
    clear h1 h2 h3
    go_enter Tryd.func23, Tryd.ntmps23
    go_wp2
    go_ret
    exact ⟨rfl, rfl⟩
  · have d1 : decide (node < -1) = false := by simp; omega
    have d2 : decide (c.co ≤ node) = false := by simp; omega
    have d3 : decide (qn < 0) = false := by simp; omega
    have d4 : decide (2 < qn) = true := by simp; omega
    clear h1 h2 h3 h4
    go_enter Tryd.func23, Tryd.ntmps23
    go_wp2
    go_ret
    exact ⟨rfl, rfl⟩

theorem many_take (ns : List Nt) (j : Nat) (x : Nt) (hx : ns[j]? = some x) (node qn : Int) : (many (ns.take (j + 1)) node qn : Int) = (many (ns.take j) node qn : Int) + (if isOf node qn x then 1 else 0) := by
  rw [take_snoc ns j x hx, many_snoc]
  split <;> simp
set_option maxRecDepth 100000 in
set_option maxHeartbeats 1000000 in
theorem rroom_in (q : Nat) (c : Cfg) (r : Nat) (u : Value) (ns : List Nt) (h : Int) (w : World) (H : RNet w q c r u ns h) (node qn : Int) (hb : isPool c node qn) (hr : r ≤ 1024) (hl : ns.length ≤ 65536) :
    Calls Tryd.prog 23 #[.pointer (some ⟨q, 0, none⟩), .int .i64 node, .int .i64 qn] w fun e w' => e = .returned (.int .i64 ((r : Int) - (many ns node qn : Int))) ∧ w = w' := by
  have c0 := H.c0
  have c8 := H.c8
  have c9 := H.c9
  obtain ⟨ad, cap, rfl⟩ := H.sl.form
  obtain ⟨l, hll⟩ : ∃ l, l = ns.length := ⟨_, rfl⟩
  have HLL := Lib.hid hll
  rw [← hll] at c9 hl
  have HSL := Lib.hid H.sl
  rw [← hll] at HSL
  have HR := Lib.hid hr
  have HL := Lib.hid hl
  unfold isPool at hb
  have d1 : decide (node < -1) = false := by simp; omega
  have d2 : decide (c.co ≤ node) = false := by simp; omega
  have d3 : decide (qn < 0) = false := by simp; omega
  have d4 : decide (2 < qn) = false := by simp; omega
  have HNT : Hid (∀ k w, _) := Lib.hid fun k w => rnet_any k w
  clear H hb hll hr
  go_enter Tryd.func23, Tryd.ntmps23
  go_wp2_with fail
  go_loopw [8, 7] (fun i v wr => ∃ j : Nat, j ≤ l ∧ i = .int .i64 (j : Int) ∧ v = .int .i64 ((r : Int) - (many (ns.take j) node qn : Int)) ∧ w = wr) (fun i _ _ => l - (intOf i).toNat)
  case atStart => exact ⟨0, Nat.zero_le _, rfl, by simp [many], rfl⟩
  case round =>
    obtain ⟨j, hj, rfl, rfl, rfl⟩ := hrel
    by_cases hlt : j < l
    · obtain ⟨x, hx⟩ : ∃ x, ns[j]? = some x := ⟨_, List.getElem?_eq_getElem (by have := HLL.out; omega)⟩
      obtain ⟨g, off, rfl, hqe, hrg⟩ := nsl_at HSL.out j x hx
      clear hqe
      have e0 : w.cell? ⟨g, off + j * 24, none⟩ = some (.int .u8 x.k) := by have := hrg 0 _ rfl; rwa [Nat.add_zero] at this
      have e2 : w.cell? ⟨g, off + j * 24 + 2, none⟩ = some (.int .i64 x.t) := hrg 2 _ rfl
      have HM := Lib.hid (many_take ns j x hx node qn)
      have hml : many (ns.take j) node qn ≤ 65536 := Nat.le_trans (many_le _ _ _) (by rw [List.length_take]; have := HL.out; omega)
      have HX : Hid (∀ w, _) := Lib.hid (HNT.out x.k)
      obtain ⟨y, hy⟩ : ∃ y, y = many (ns.take j) node qn := ⟨_, rfl⟩
      rw [← hy] at HM hml ⊢
      have hrr := HR.out
      have hwy : IntKind.i64.wrap ((r : Int) - (y : Int) - 1) = (r : Int) - (y : Int) - 1 := IntWalk.i64_in _ (by omega)
      clear hx hrg hy
      obtain ⟨m, hm⟩ : ∃ m, m = net x.k := ⟨_, rfl⟩
      rw [← hm] at HX
      by_cases h1 : x.t = node
      · by_cases h2 : m = qn
        · have f1 : (x.t == node) = true := by simp [h1]
          have f2 : (m == qn) = true := by simp [h2]
          have HI : Hid (isOf node qn x = true) := Lib.hid (by simp [isOf, h1, ← hm, h2])
          clear h1 h2 hm
          go_wp2_with (go_at_call 42; ((with_reducible refine (HX.out _).mono ?_); rintro e w1 ⟨rfl, rfl⟩))
          go_roundw
          case rel => exact ⟨j + 1, by omega, by go_num, by rw [HM.out, HI.out]; simp; omega, trivial⟩
          case measure => simp [intOf]; omega
        · have f1 : (x.t == node) = true := by simp [h1]
          have f2 : (m == qn) = false := by simp [h2]
          have HI : Hid (isOf node qn x = false) := Lib.hid (by simp [isOf, h1, ← hm, h2])
          clear h1 h2 hm
          go_wp2_with (go_at_call 42; ((with_reducible refine (HX.out _).mono ?_); rintro e w1 ⟨rfl, rfl⟩))
          go_roundw
          case rel => exact ⟨j + 1, by omega, by go_num, by rw [HM.out, HI.out]; simp, trivial⟩
          case measure => simp [intOf]; omega
      · have f1 : (x.t == node) = false := by simp [h1]
        have HI : Hid (isOf node qn x = false) := Lib.hid (by simp [isOf, h1])
        clear h1 hm
        go_wp2_with (go_at_call 42; ((with_reducible refine (HX.out _).mono ?_); rintro e w1 ⟨rfl, rfl⟩))
        go_roundw
        case rel => exact ⟨j + 1, by omega, by go_num, by rw [HM.out, HI.out]; simp, trivial⟩
        case measure => simp [intOf]; omega
    · obtain rfl : j = l := by omega
      rw [List.take_of_length_le (by rw [HLL.out]; exact Nat.le_refl _)]
      go_wp2_with fail
      go_ret
      exact ⟨rfl, rfl⟩
theorem rroom_any (q : Nat) (c : Cfg) (r : Nat) (u : Value) (ns : List Nt) (h : Int) (w : World) (H : RNet w q c r u ns h) (node qn : Int) (hr : r ≤ 1024) (hl : ns.length ≤ 65536) :
    Calls Tryd.prog 23 #[.pointer (some ⟨q, 0, none⟩), .int .i64 node, .int .i64 qn] w fun e w' => e = .returned (.int .i64 (roomOf c r ns node qn)) ∧ w = w' := by
  unfold roomOf
  by_cases hb : isPool c node qn
  · rw [if_pos hb]; exact rroom_in q c r u ns h w H node qn hb hr hl
  · rw [if_neg hb]; exact rroom_out q c r u ns h w H node qn hb
end Go.Proofs.YtoemkhmbeiindaaDoor.tt
