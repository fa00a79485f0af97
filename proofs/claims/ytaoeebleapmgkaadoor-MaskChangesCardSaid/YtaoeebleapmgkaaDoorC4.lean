/-
  The set of a list, the document's own set and list, the equality of two lists, and what each statement asks first: contracts. No condition beyond the bounds that each theorem names and that the library's table lies in its variable.
-/
import Derived.Test.YtaoeebleapmgkaaDoorC3
namespace Go.Proofs.YtaoeebleapmgkaaDoor.mm
open Go Go.RowKit
set_option linter.unusedVariables false

/-- The ints xs lie behind the address, one a cell. -/
def At (w : World) (ad : Option Addr) (xs : List Int) : Prop := ∀ k x, xs[k]? = some x → ∃ b off, ad = some ⟨b, off, none⟩ ∧ w.cell? ⟨b, off + k, none⟩ = some (.int .i64 x)
theorem At.drewN {w : World} {ad : Option Addr} {xs : List Int} (h : At w ad xs) (n : Nat) : At (w.drewN n) ad xs := fun k x hk => by
  obtain ⟨b, off, h1, h2⟩ := h k x hk
  exact ⟨b, off, h1, by rw [World.cell?_drewN]; exact h2⟩

/-- The set of a list; none, if one is in no set. -/
def setOf : List Int → Nat → Option Nat
  | [], m => some m
  | x :: l, m => if 0 ≤ x ∧ x < 32 then setOf l (wi m x) else none
def resM (xs : List Int) : Int := match setOf xs 0 with | some m => (m : Int) | none => 0
def resE (xs : List Int) : Int := match setOf xs 0 with | some _ => 0 | none => 5

theorem setOf_in {x : Int} {l : List Int} {m : Nat} (h : 0 ≤ x ∧ x < 32) : setOf (x :: l) m = setOf l (wi m x) := by
  show (if 0 ≤ x ∧ x < 32 then setOf l (wi m x) else none) = _
  rw [if_pos h]
theorem setOf_out {x : Int} {l : List Int} {m : Nat} (h : ¬ (0 ≤ x ∧ x < 32)) : setOf (x :: l) m = none := by
  show (if 0 ≤ x ∧ x < 32 then setOf l (wi m x) else none) = _
  rw [if_neg h]
theorem drop_get (xs : List Int) (k : Nat) (h : k < xs.length) : ∃ x, xs[k]? = some x ∧ xs.drop k = x :: xs.drop (k + 1) :=
  ⟨xs[k], List.getElem?_eq_getElem h, List.drop_eq_getElem_cons h⟩

theorem ret_pair {a b c d : Int} (h1 : a = c) (h2 : b = d) : Ending.returned (.tuple #[.int .u32 a, .int .i64 b]) = Ending.returned (.tuple #[.int .u32 c, .int .i64 d]) := by rw [h1, h2]

set_option maxHeartbeats 1000000 in
theorem of_any (xs : List Int) (ad : Option Addr) (len cap : Nat) (w : World) (hlen : len = xs.length) (hmax : len ≤ 9223372036854775807) (hat : At w ad xs) :
    Calls Tryd.prog 9 #[.slice ad len cap] w fun e w' => e = .returned (.tuple #[.int .u32 (resM xs), .int .i64 (resE xs)]) ∧ w = w' := by
  have HAT := Lib.hid hat
  have HL := Lib.hid hlen
  clear hat hlen
  go_enter Tryd.func9, Tryd.ntmps9
  go_wp2_with fail
  go_loop [4, 9] (fun x i => ∃ k : Nat, k ≤ len ∧ i = .int .i64 (k : Int) ∧ ∃ m : Nat, m < 4294967296 ∧ setOf xs 0 = setOf (xs.drop k) m ∧ x = .int .u32 (m : Int)) (fun _ i => len - (intOf i).toNat)
  case atStart => exact ⟨0, Nat.zero_le _, rfl, 0, by decide, rfl, rfl⟩
  case round =>
    obtain ⟨k, hk, rfl, m, hm, hs, rfl⟩ := hrel
    by_cases hlt : k < len
    · obtain ⟨x, hx, hd⟩ := drop_get xs k (by have := HL.out; omega)
      obtain ⟨b, off, rfl, hcell⟩ := HAT.out k x hx
      rw [hd] at hs
      clear hx hd
      by_cases hin : 0 ≤ x ∧ x < 32
      · rw [setOf_in hin] at hs
        have HS := Lib.hid hs
        have hq := Lib.hid (may_in x w hin.1 hin.2)
        have hw := Lib.hid (with_any m x w hm)
        have hl := wi_lt m x hm
        clear hs hin
        go_wp2_with (first
          | (go_at_call 24; ((with_reducible refine hq.out.mono ?_); rintro e w' ⟨rfl, rfl⟩))
          | (go_at_call 14; ((with_reducible refine hw.out.mono ?_); rintro e w' ⟨rfl, rfl⟩)))
        go_round
        case rel => exact ⟨k + 1, by omega, by go_num, wi m x, hl, HS.out, rfl⟩
        case measure => simp [intOf]; omega
      · rw [setOf_out hin] at hs
        have HS := Lib.hid hs
        have hq := Lib.hid (may_out x w (by omega))
        clear hs hin
        go_wp2_with (go_at_call 24; ((with_reducible refine hq.out.mono ?_); rintro e w' ⟨rfl, rfl⟩))
        go_ret2
        exact ⟨ret_pair (by unfold resM; rw [HS.out]) (by unfold resE; rw [HS.out]), rfl⟩
    · have hkn : k = len := by omega
      subst hkn
      have hs' : setOf xs 0 = some m := by rw [hs, List.drop_of_length_le (by have := HL.out; omega)]; rfl
      have HS := Lib.hid hs'
      clear hs hs'
      go_wp2_with fail
      go_ret2
      exact ⟨ret_pair (by unfold resM; rw [HS.out]) (by unfold resE; rw [HS.out]), rfl⟩

set_option maxHeartbeats 1000000 in
theorem rof_any (xs : List Int) (ad : Option Addr) (len cap : Nat) (w : World) (hlen : len = xs.length) (hmax : len ≤ 9223372036854775807) (hat : At w ad xs) :
    Calls Tryd.prog 13 #[.slice ad len cap] w fun e w' => e = .returned (.tuple #[.int .u32 (resM xs), .int .i64 (resE xs)]) ∧ w = w' := by
  have HAT := Lib.hid hat
  have HL := Lib.hid hlen
  clear hat hlen
  go_enter Tryd.func13, Tryd.ntmps13
  go_wp2_with fail
  go_loop [4, 5] (fun x i => ∃ k : Nat, k ≤ len ∧ i = .int .i64 (k : Int) ∧ ∃ m : Nat, m < 4294967296 ∧ setOf xs 0 = setOf (xs.drop k) m ∧ x = .int .u32 (m : Int)) (fun _ i => len - (intOf i).toNat)
  case atStart => exact ⟨0, Nat.zero_le _, rfl, 0, by decide, rfl, rfl⟩
  case round =>
    obtain ⟨k, hk, rfl, m, hm, hs, rfl⟩ := hrel
    by_cases hlt : k < len
    · obtain ⟨x, hx, hd⟩ := drop_get xs k (by have := HL.out; omega)
      obtain ⟨b, off, rfl, hcell⟩ := HAT.out k x hx
      rw [hd] at hs
      clear hx hd
      by_cases hin : 0 ≤ x ∧ x < 32
      · rw [setOf_in hin] at hs
        have HS := Lib.hid hs
        have hw := Lib.hid (rwith_any m x w hm)
        have hl := wi_lt m x hm
        have h0 : decide (x < 0) = false := by simp; omega
        have h1 : decide (31 < x) = false := by simp; omega
        clear hs hin
        go_wp2_with (go_at_call 15; ((with_reducible refine hw.out.mono ?_); rintro e w' ⟨rfl, rfl⟩))
        go_round
        case rel => exact ⟨k + 1, by omega, by go_num, wi m x, hl, HS.out, rfl⟩
        case measure => simp [intOf]; omega
      · rw [setOf_out hin] at hs
        have HS := Lib.hid hs
        clear hs
        by_cases hneg : x < 0
        · clear hin
          go_wp2_with fail
          go_ret2
          exact ⟨ret_pair (by unfold resM; rw [HS.out]) (by unfold resE; rw [HS.out]), rfl⟩
        · have h0 : decide (x < 0) = false := by simp; omega
          have h1 : decide (31 < x) = true := by simp; omega
          clear hin hneg
          go_wp2_with fail
          go_ret2
          exact ⟨ret_pair (by unfold resM; rw [HS.out]) (by unfold resE; rw [HS.out]), rfl⟩
    · have hkn : k = len := by omega
      subst hkn
      have hs' : setOf xs 0 = some m := by rw [hs, List.drop_of_length_le (by have := HL.out; omega)]; rfl
      have HS := Lib.hid hs'
      clear hs hs'
      go_wp2_with fail
      go_ret2
      exact ⟨ret_pair (by unfold resM; rw [HS.out]) (by unfold resE; rw [HS.out]), rfl⟩

/-- The document's list. -/
def pre (m k : Nat) : List Nat := (List.range k).filter (fun i => m.testBit i)
theorem pre_has (m k : Nat) (h : m.testBit k = true) : pre m (k + 1) = pre m k ++ [k] := by
  unfold pre; rw [List.range_succ, List.filter_append]; simp [h]
theorem pre_not (m k : Nat) (h : m.testBit k = false) : pre m (k + 1) = pre m k := by
  unfold pre; rw [List.range_succ, List.filter_append]; simp [h]
theorem pre_len (m k : Nat) : (pre m k).length ≤ k := by
  have := List.length_filter_le (fun i => m.testBit i) (List.range k)
  rw [List.length_range] at this; exact this

/-- one more number behind those that are there -/
theorem push1 {ops : Array Oper} {rest : List Oper} {o : Oper} {a : Act} {Q : Exit → Act → World → Prop} {w wr : World} (hgd : o.guard = none) (s x : Operand)
    (ho : o.op = .call { callee := .builtin .append, args := #[s, x], argTypes := #[29, 29] }) {v : Value} {l : List Nat} (hs : a.eval s = v) (hown : wr.ownsRow w.heap.size 3 1 v l.length (row l)) (hbe : Below w.heap.size w wr)
    (n : Nat) (hx : a.eval x = .slice (some ⟨wr.heap.size, 0, none⟩) 1 1) (hk : l.length ≤ 4194304)
    (h : ∀ v' w', w'.ownsRow w.heap.size 3 1 v' (l ++ [n]).length (row (l ++ [n])) → Below w.heap.size w w' → wpList Tryd.prog ops Q rest (a.put o.dst v') w') :
    wpList Tryd.prog ops Q (o :: rest) a (wr.alloc (.cells #[.int .i64 (n : Int)] 3)) := by
  obtain ⟨i0, hi, hz0, hz1, hz2⟩ := info_parts Tryd.info3
  have hsz := hbe.size
  refine wpList_append_own _ hgd s x 29 ho w.heap.size 3 i0 (.int .i64 0) 1 8 Tryd.underlying29 hi hz0 hz1 hz2 rfl (by decide) v l.length (row l) hs (hown.alloc _) ⟨wr.heap.size, 0, none⟩ 1 1 [.int .i64 (n : Int)] hx rfl ?_ ?_ (by unfold maxLen; omega) (by omega) (by simp; omega) ?_
  · exact cell_one_new _ _ _
  · intro r hr; simp at hr; subst hr; rfl
  · intro v' w' h1 h2 _
    refine h v' w' (by rw [row_snoc, List.length_append]; exact h1) ((hbe.alloc hsz _).grown h2 (by simp; omega) (fun k e => (hown.lt k e).1))

set_option maxHeartbeats 1000000 in
theorem rlist_any (m : Nat) (w : World) (hm : m < 4294967296) :
    Calls Tryd.prog 20 #[.int .u32 (m : Int)] w fun e w' => ∃ v, e = .returned v ∧ w'.ownsRow w.heap.size 3 1 v (ones m).length (row (ones m)) ∧ Below w.heap.size w w' := by
  go_enter Tryd.func20, Tryd.ntmps20
  go_wp2_with fail
  go_loopw [3, 4] (fun v i wr => ∃ k : Nat, k ≤ 32 ∧ i = .int .i64 (k : Int) ∧ wr.ownsRow w.heap.size 3 1 v (pre m k).length (row (pre m k)) ∧ Below w.heap.size w wr) (fun _ i _ => 32 - (intOf i).toNat)
  case atStart => exact ⟨0, by omega, rfl, World.ownsRow_nil _ _ _ _, Below.refl _ _⟩
  case round =>
    obtain ⟨k, hk, rfl, hown, hbe⟩ := hrel
    by_cases hlt : k < 32
    · have hq := rhas_in m k wr hm hlt
      have hpl := pre_len m k
      have hl4 : (pre m k).length ≤ 4194304 := by omega
      cases ht : m.testBit k with
      | true =>
        rw [ht] at hq
        have HQ := Lib.hid hq
        have HP := Lib.hid (pre_has m k ht)
        clear hq ht
        go_wp2_with (first
          | (go_at_call 19; ((with_reducible refine HQ.out.mono ?_); rintro e w' ⟨rfl, rfl⟩))
          | (at_builtin; refine push1 rfl _ _ rfl rfl hown hbe _ rfl hl4 ?_; intro v' w2 hown' hbe2))
        go_roundw
        case rel => exact ⟨k + 1, by omega, by go_num, by rw [HP.out]; exact hown', hbe2⟩
        case measure => simp [intOf]; omega
      | false =>
        rw [ht] at hq
        have HQ := Lib.hid hq
        have HP := Lib.hid (pre_not m k ht)
        clear hq ht
        go_wp2_with (go_at_call 19; ((with_reducible refine HQ.out.mono ?_); rintro e w' ⟨rfl, rfl⟩))
        go_roundw
        case rel => exact ⟨k + 1, by omega, by go_num, by rw [HP.out]; exact hown, hbe⟩
        case measure => simp [intOf]; omega
    · have hkn : k = 32 := by omega
      subst hkn
      have hown2 : wr.ownsRow w.heap.size 3 1 _ (ones m).length (row (ones m)) := hown
      clear hown
      go_wp2_with fail
      go_ret
      exact ⟨_, rfl, hown2, hbe⟩

set_option maxHeartbeats 1000000 in
theorem equal_same (xs : List Int) (ad1 ad2 : Option Addr) (len cap1 cap2 : Nat) (w : World) (hlen : len = xs.length) (hmax : len ≤ 9223372036854775807) (h1 : At w ad1 xs) (h2 : At w ad2 xs) :
    Calls Tryd.prog 21 #[.slice ad1 len cap1, .slice ad2 len cap2] w fun e w' => e = .returned (.bool true) ∧ ∃ n, w' = w.drewN n := by
  have H1 := Lib.hid h1
  have H2 := Lib.hid h2
  have HL := Lib.hid hlen
  clear h1 h2 hlen
  go_enter Tryd.func21, Tryd.ntmps21
  go_wp2_with fail
  go_loopw [13, 5] (fun i _ wr => ∃ k : Nat, k ≤ len ∧ i = .int .i64 (k : Int) ∧ ∃ n, wr = w.drewN n) (fun i _ _ => len - (intOf i).toNat)
  case atStart => exact ⟨0, Nat.zero_le _, rfl, 0, rfl⟩
  case round =>
    obtain ⟨k, hk, rfl, n, hwr⟩ := hrel
    by_cases hlt : k < len
    · obtain ⟨x, hx, _⟩ := drop_get xs k (by have := HL.out; omega)
      obtain ⟨b1, off1, rfl, hc1⟩ := H1.out k x hx
      obtain ⟨b2, off2, rfl, hc2⟩ := H2.out k x hx
      have hd1 : wr.cell? ⟨b1, off1 + k, none⟩ = some (.int .i64 x) := by rw [hwr, World.cell?_drewN]; exact hc1
      have hd2 : wr.cell? ⟨b2, off2 + k, none⟩ = some (.int .i64 x) := by rw [hwr, World.cell?_drewN]; exact hc2
      have HW := Lib.hid hwr
      have hne : (x != x) = false := by simp
      clear hx hc1 hc2 hwr
      go_wp2_with fail
      go_quiet (fail)
      go_wp2_with fail
      go_roundw
      case rel => exact ⟨k + 1, by omega, by go_num, n + _, by rw [HW.out, World.drewN_drewN]⟩
      case measure => simp [intOf]; omega
    · have hkn : k = len := by omega
      subst hkn
      have HW := Lib.hid hwr
      clear hwr
      go_wp2_with fail
      go_ret
      exact ⟨rfl, n, HW.out⟩

theorem own_pos {w : World} {base : Nat} {e : TypeId} {size : Nat} {v : Value} {n : Nat} {xs : List Value} (h : w.ownsRow base e size v n xs) (hn : 0 < n) :
    ∃ g cap, v = .slice (some ⟨g, 0, none⟩) n cap ∧ base ≤ g ∧ g < w.heap.size ∧ ∀ j u, xs[j]? = some u → w.cell? ⟨g, j, none⟩ = some u := by
  have hcells := fun g (hg : v.ownBlock = some g) => h.cells hg
  have hlt := h.lt
  rcases h.2 with ⟨rfl, h0⟩ | ⟨g, cap, cur, rfl, hb, hh, _⟩
  · omega
  · have h1 := hcells g rfl
    exact ⟨g, cap, rfl, hb, (hlt g rfl).2, fun j u hu => by
      have h2 := h1 j u hu
      by_cases hj : j = 0
      · subst hj; simpa [Addr.add] using h2
      · simpa [Addr.add, hj] using h2⟩
/-- A row of the call's own is a list of ints behind an address. -/
theorem own_at {w : World} {base : Nat} {v : Value} {l : List Nat} (h : w.ownsRow base 3 1 v l.length (row l)) :
    ∃ ad cap, v = .slice ad l.length cap ∧ At w ad (l.map fun x : Nat => (x : Int)) ∧ ∀ g, ad = some g → g.block < w.heap.size := by
  by_cases h0 : 0 < l.length
  · obtain ⟨g, cap, rfl, _, hlt, hc⟩ := own_pos h h0
    refine ⟨_, cap, rfl, fun k x hx => ⟨g, 0, rfl, ?_⟩, fun g' e => by cases e; exact hlt⟩
    rw [Nat.zero_add]
    refine hc k _ ?_
    rw [List.getElem?_map, Option.map_eq_some_iff] at hx
    obtain ⟨y, hy, rfl⟩ := hx
    simp [row, hy]
  · have hl : l = [] := List.length_eq_zero_iff.1 (by omega)
    subst hl
    have hlt := h.lt
    rcases h.2 with ⟨rfl, _⟩ | ⟨g, cap, cur, rfl, _⟩
    · exact ⟨none, 0, rfl, fun k x hx => by simp at hx, fun g' e => by cases e⟩
    · exact ⟨_, cap, rfl, fun k x hx => by simp at hx, fun g' e => by cases e; exact (hlt g rfl).2⟩
theorem At.below {w w' : World} {ad : Option Addr} {xs : List Int} {n : Nat} (h : At w ad xs) (hb : Below n w w') (hn : ∀ g, ad = some g → g.block < n) : At w' ad xs := fun k x hx => by
  obtain ⟨b, off, rfl, hc⟩ := h k x hx
  exact ⟨b, off, rfl, (hb.cell (p := ⟨b, off + k, none⟩) (hn ⟨b, off, none⟩ rfl)).trans hc⟩
end Go.Proofs.YtaoeebleapmgkaaDoor.mm
