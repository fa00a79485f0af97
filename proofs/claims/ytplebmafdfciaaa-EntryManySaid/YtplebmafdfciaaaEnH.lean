/-
  What comes of asks and goings back may be an entry; the law EntryMany returns true: the walk. Condition: the steps lie behind the slice's address.
-/
import Derived.Test.YtplebmafdfciaaaEnG
import Derived.LoopTactic
namespace Go.Proofs.Ytplebmafdfciaaa.en
open Go Go.ChangeShapes Go.WideShapes Go.ChangeAt Go.RowKit
open Go.Proofs.Ytplebmafdfciaaa.mm (wi wo ha pop wi_lt wo_lt wi_in wi_out with_any count_any)
set_option linter.unusedVariables false

theorem wi_16 (m : Nat) (n : Int) (hm : m < 65536) (h : n ≤ 15) : wi m n < 65536 := by
  unfold wi
  split
  · have : 2 ^ n.toNat ≤ 2 ^ 15 := Nat.pow_le_pow_right (by decide) (by omega)
    exact Nat.or_lt_two_pow (n := 16) hm (by omega)
  · exact hm
theorem may_parts {o : Int} {s : Nat} (h : En.may ⟨o, s⟩ = true) : -1 ≤ o ∧ o ≤ 15 ∧ s < 65536 ∧ (o ≠ -1 → s = 0) := of_decide_eq_true h
theorem ask_parts {e : En} {k x : Int} (h : ask e k x = true) : e.may = true ∧ (0 ≤ x ∧ x ≤ 15) ∧ (k = 1 ∨ k = 2) := by
  unfold ask at h
  simp only [Bool.and_eq_true, decide_eq_true_eq] at h
  exact ⟨h.1.1, h.1.2, h.2⟩
/-- What an ask makes of an entry may be one. -/
theorem gets_cases (e : En) (k x : Int) : (∃ o s t, gets e k x = (⟨o, s⟩, t, 0) ∧ En.may ⟨o, s⟩ = true ∧ ask e k x = true) ∨ (gets e k x = (⟨0, 0⟩, 0, 2) ∧ ask e k x = false) := by
  unfold gets
  cases h : ask e k x
  · exact .inr ⟨if_neg (by simp), rfl⟩
  · obtain ⟨hm, hx, hk⟩ := ask_parts h
    obtain ⟨o, s⟩ := e
    obtain ⟨h1, h2, h3, h4⟩ := may_parts hm
    rw [if_pos rfl]
    refine .inl ?_
    split
    · exact ⟨_, _, _, rfl, may_yes (by omega), rfl⟩
    · split
      · exact ⟨_, _, _, rfl, may_yes (by omega), rfl⟩
      · exact ⟨_, _, _, rfl, may_yes ⟨by omega, by omega, wi_16 _ _ (wi_16 _ _ h3 h2) hx.2, fun h => absurd rfl h⟩, rfl⟩
theorem back_cases (e : En) (x : Int) (st : Bool) : (∃ o s t, back e x st = (⟨o, s⟩, t, 0) ∧ En.may ⟨o, s⟩ = true) ∨ back e x st = (⟨0, 0⟩, false, 2) := by
  unfold back
  cases h : e.may && decide (0 ≤ x ∧ x ≤ 15)
  · exact .inr (if_neg (by simp))
  · rw [if_pos rfl]
    have hm := (Bool.and_eq_true _ _ ▸ h : _ ∧ _).1
    refine .inl ?_
    split
    · cases st
      · exact ⟨_, _, _, rfl, by decide⟩
      · exact ⟨_, _, _, rfl, hm⟩
    · exact ⟨_, _, _, rfl, hm⟩
theorem pop_one : ∀ n : Fin 16, pop (0 ||| 2 ^ n.val) 32 = 1 := by decide +kernel
theorem owner_one {o : Int} {s : Nat} (h : En.may ⟨o, s⟩ = true) (h0 : 0 ≤ o) : pop (wi s o) 32 = 1 := by
  obtain ⟨h1, h2, h3, h4⟩ := may_parts h
  obtain rfl : s = 0 := h4 (by omega)
  obtain ⟨n, rfl⟩ : ∃ n : Nat, o = (n : Int) := ⟨o.toNat, by omega⟩
  rw [wi_in 0 n (by omega)]
  exact pop_one ⟨n, by omega⟩

/-- A step: a block that goes back, or an ask. -/
structure Stp where
  b : Bool
  st : Bool
  k : Int
  x : Int
instance : Inhabited Stp := ⟨⟨false, false, 0, 0⟩⟩
def StepsAt (w : World) (ad : Option Addr) (os : List Stp) : Prop := ∀ (k : Nat) q, os[k]? = some q → ∃ b off, ad = some ⟨b, off, none⟩ ∧ w.cell? ⟨b, off + k * 4, none⟩ = some (.bool q.b) ∧ w.cell? ⟨b, off + k * 4 + 1, none⟩ = some (.bool q.st) ∧ w.cell? ⟨b, off + k * 4 + 2, none⟩ = some (.int .u8 q.k) ∧ w.cell? ⟨b, off + k * 4 + 3, none⟩ = some (.int .i64 q.x)
theorem StepsAt.grown {w w' : World} {ad : Option Addr} {os : List Stp} (h : StepsAt w ad os) (hg : w.grownBy w' none) : StepsAt w' ad os := fun k q hq => by
  obtain ⟨b, off, e, h0, h1, h2, h3⟩ := h k q hq
  exact ⟨b, off, e, hg.cell h0 (by simp), hg.cell h1 (by simp), hg.cell h2 (by simp), hg.cell h3 (by simp)⟩
theorem row_set {w : World} {g k : Nat} {o : Obj} (h : w.heap[k]? = some o) (hk : k ≠ g) (c : Array Value) : (w.setRow g c).heap[k]? = some o := (setRow_other _ _ _ _ hk).trans h

set_option maxRecDepth 1000000 in
set_option maxHeartbeats 4000000 in
theorem many_true (os : List Stp) (ad : Option Addr) (len cap : Nat) (w : World) (hl : len = os.length) (hat : StepsAt w ad os) : Calls Try.prog 4 #[.slice ad len cap] w fun e w' => e = .returned (.bool true) ∧ w.grownBy w' none := by
  have HW : Hid (∀ w, _) := Lib.hid fun w => works_any w
  have HF : Hid (∀ w, _) := Lib.hid fun w => free_any w
  have HAT := Lib.hid hat
  have HL := Lib.hid hl
  clear hat hl
  by_cases hlen : len ≤ 300
  · have hd : decide (300 < len) = false := decide_eq_false (by omega)
    go_enter Try.func4, Try.ntmps4
    go_wp2_with (first
      | (go_at_call 8; ((with_reducible refine (HF.out _).mono ?_); rintro e w5 ⟨rfl, hg5⟩; have HG5 := Lib.hid hg5; clear hg5))
      | ((with_reducible refine store_enN (-1) 0 _ _ _ _ ?_ ?_ ?_ ?_); (rfl); (rfl); (rfl)))
    have HE0 : Hid ((w5.alloc (.cells #[.int .i64 (-1), .int .u32 0] 25)).heap[w5.heap.size]? = some (.cells #[.int .i64 (-1), .int .u32 0] 25 (0, 0))) := Lib.hid (heap_alloc_new _ _)
    have HG0 : Hid (w.grownBy (w5.alloc (.cells #[.int .i64 (-1), .int .u32 0] 25)) none) := Lib.hid (grown_alloc HG5.out _)
    have HEB : Hid (w.heap.size ≤ w5.heap.size) := Lib.hid HG5.out.size
    generalize w5.alloc (.cells #[.int .i64 (-1), .int .u32 0] 25) = w6 at HE0 HG0 ⊢
    generalize w5.heap.size = eb at HE0 HEB ⊢
    clear HG5
    go_loopw [15] (fun i wr => ∃ k : Nat, k ≤ len ∧ i = .int .i64 (k : Int) ∧ ∃ (o : Int) (s : Nat), En.may ⟨o, s⟩ = true ∧ wr.heap[eb]? = some (.cells #[.int .i64 o, .int .u32 (s : Int)] 25 (0, 0)) ∧ w.grownBy wr none) (fun i _ => len - (intOf i).toNat)
    case atStart => exact ⟨0, Nat.zero_le _, rfl, -1, 0, by decide, HE0.out, HG0.out⟩
    case round =>
      obtain ⟨i, hi, rfl, o, s, hm, hE, hG⟩ := hrel
      have HM := Lib.hid hm
      have hs : s < 4294967296 := by have := (may_parts hm).2.2.1; omega
      by_cases hlt : i < len
      · obtain ⟨q, hq⟩ : ∃ q, os[i]? = some q := ⟨_, List.getElem?_eq_getElem (by have := HL.out; omega)⟩
        obtain ⟨b, off, rfl, h0, h1, h2, h3⟩ := HAT.out.grown hG i q hq
        obtain ⟨qb, qst, qk, qx⟩ := q
        have HS2 : Hid (_ = ((wr.alloc (.cells #[.bool qb, .bool qst, .int .u8 qk, .int .i64 qx] 34)).alloc (.cells #[.int .i64 o, .int .u32 (s : Int)] 25))) := Lib.hid rfl
        have HLT : Hid (eb < wr.heap.size) := Lib.hid (Array.getElem?_eq_some_iff.1 hE).1
        have HSZ : Hid (w.heap.size ≤ wr.heap.size) := Lib.hid hG.size
        have HE2 : Hid (((wr.alloc (.cells #[.bool qb, .bool qst, .int .u8 qk, .int .i64 qx] 34)).alloc (.cells #[.int .i64 o, .int .u32 (s : Int)] 25)).heap[eb]? = _) := Lib.hid (row_grown hE (grown_alloc (grown_alloc (grown_refl _ _) _) _))
        have HN2 : Hid (((wr.alloc (.cells #[.bool qb, .bool qst, .int .u8 qk, .int .i64 qx] 34)).alloc (.cells #[.int .i64 o, .int .u32 (s : Int)] 25)).heap[wr.heap.size + 1]? = some (.cells #[.int .i64 o, .int .u32 (s : Int)] 25 (0, 0))) := Lib.hid (by
          have := heap_alloc_new (wr.alloc (.cells #[.bool qb, .bool qst, .int .u8 qk, .int .i64 qx] 34)) (.cells #[.int .i64 o, .int .u32 (s : Int)] 25)
          rwa [World.size_alloc] at this)
        have HG2 : Hid (w.grownBy ((wr.alloc (.cells #[.bool qb, .bool qst, .int .u8 qk, .int .i64 qx] 34)).alloc (.cells #[.int .i64 o, .int .u32 (s : Int)] 25)) none) := Lib.hid (grown_alloc (grown_alloc hG _) _)
        have HE1 : Hid ((wr.alloc (.cells #[.bool qb, .bool qst, .int .u8 qk, .int .i64 qx] 34)).heap[eb]? = _) := Lib.hid (row_grown hE (grown_alloc (grown_refl _ _) _))
        have HB : Hid (∀ w, _) := Lib.hid fun w => back_any o s qx qst w hs
        have HQ : Hid (∀ w, _) := Lib.hid fun w => gets_any o s qk qx w hs
        have hbc := back_cases ⟨o, s⟩ qx qst
        have hgc := gets_cases ⟨o, s⟩ qk qx
        clear hm hs hE hG hq HS2
        cases qb
        · clear hbc HB
          rcases hgc with ⟨o', s', t, hr, hm', _⟩ | ⟨hr, _⟩
          · rw [hr] at HQ
            unfold got at HQ
            have HC := HQ
            clear HQ hr
            have HM' := Lib.hid hm'
            have hs' : s' < 4294967296 := by have := (may_parts hm').2.2.1; omega
            have HY : Hid (∀ w, _) := Lib.hid fun w => may_any o' s' w hs'
            rw [hm'] at HY
            unfold err at HY
            by_cases h0 : 0 ≤ o'
            · have HK : Hid (∀ w, _) := Lib.hid fun w => lknown_any o' s' w hs'
              have hkl := wi_lt s' o' hs'
              have HCT : Hid (∀ w, _) := Lib.hid fun w => count_any (wi s' o') w hkl
              rw [owner_one hm' h0] at HCT
              clear hm' hs' hkl
              generalize wi s' o' = m' at HK HCT
              go_wp2_with (first
                | ((with_reducible refine load_en _ _ _ _ _ eb ?_ HE1.out ?_); (rfl))
                | ((with_reducible refine store_enN o (s : Int) _ _ _ _ ?_ ?_ ?_ ?_); (rfl); (rfl); (rfl))
                | ((with_reducible refine load_en _ _ _ _ _ eb ?_ HE2.out ?_); (rfl))
                | (go_at_call 9; ((with_reducible refine (HC.out _).mono ?_); rintro e w6 ⟨rfl, hg6⟩; have HE6 := Lib.hid (row_grown HE2.out hg6); have HN6 := Lib.hid (row_grown HN2.out hg6); have HG6 := Lib.hid (grown_trans HG2.out hg6); clear hg6))
                | ((with_reducible refine store_en o' (s' : Int) _ _ _ _ (wr.heap.size + 1) ?_ ?_ HN6.out ?_ ?_); (rfl); (rfl); (rfl); have HE7 : Hid ((w6.setRow (wr.heap.size + 1) #[.int .i64 o', .int .u32 (s' : Int)]).heap[eb]? = _) := Lib.hid (row_set HE6.out (by have := HLT.out; omega) _); have HN7 : Hid ((w6.setRow (wr.heap.size + 1) #[.int .i64 o', .int .u32 (s' : Int)]).heap[wr.heap.size + 1]? = _) := Lib.hid (setRow_heap _ _ _ _ _ _ HN6.out); have HG7 : Hid (w.grownBy (w6.setRow (wr.heap.size + 1) #[.int .i64 o', .int .u32 (s' : Int)]) none) := Lib.hid (grown_setRow HG6.out _ (by have := HSZ.out; omega) _); generalize w6.setRow (wr.heap.size + 1) #[.int .i64 o', .int .u32 (s' : Int)] = w7 at HE7 HN7 HG7 ⊢)
                | ((with_reducible refine load_en _ _ _ _ _ (wr.heap.size + 1) ?_ HN7.out ?_); (rfl))
                | ((with_reducible refine store_en o' (s' : Int) _ _ _ _ eb ?_ ?_ HE7.out ?_ ?_); (rfl); (rfl); (rfl); have HE8 : Hid ((w7.setRow eb #[.int .i64 o', .int .u32 (s' : Int)]).heap[eb]? = _) := Lib.hid (setRow_heap _ _ _ _ _ _ HE7.out); have HG8 : Hid (w.grownBy (w7.setRow eb #[.int .i64 o', .int .u32 (s' : Int)]) none) := Lib.hid (grown_setRow HG7.out _ HEB.out _); generalize w7.setRow eb #[.int .i64 o', .int .u32 (s' : Int)] = w8 at HE8 HG8 ⊢)
                | ((with_reducible refine load_en _ _ _ _ _ eb ?_ HE8.out ?_); (rfl))
                | (go_at_call 10; ((with_reducible refine (HY.out _).mono ?_); rintro e w9 ⟨rfl, hg9⟩; have HE9 := Lib.hid (row_grown HE8.out hg9); obtain ⟨c90, c91⟩ := cells2 HE9.out; have HG9 := Lib.hid (grown_trans HG8.out hg9); clear hg9))
                | ((with_reducible refine load_en _ _ _ _ _ eb ?_ HE9.out ?_); (rfl))
                | (go_at_call 12; ((with_reducible refine (HK.out _).mono ?_); rintro e w10 ⟨rfl, hg10⟩; have HE10 := Lib.hid (row_grown HE9.out hg10); have HG10 := Lib.hid (grown_trans HG9.out hg10); clear hg10))
                | (go_at_call 11; ((with_reducible refine (HCT.out _).mono ?_); rintro e w11 ⟨rfl, n11, hw11⟩; have HE11 := Lib.hid (row_grown HE10.out (hw11 ▸ grown_drewN (grown_refl _ _) n11)); have HG11 := Lib.hid (hw11 ▸ grown_drewN HG10.out n11); clear hw11)))
              go_roundw
              case rel => exact ⟨i + 1, by omega, by go_num, o', s', HM'.out, HE11.out, HG11.out⟩
              case measure => simp [intOf]; omega
            · clear hm' hs'
              go_wp2_with (first
                | ((with_reducible refine load_en _ _ _ _ _ eb ?_ HE1.out ?_); (rfl))
                | ((with_reducible refine store_enN o (s : Int) _ _ _ _ ?_ ?_ ?_ ?_); (rfl); (rfl); (rfl))
                | ((with_reducible refine load_en _ _ _ _ _ eb ?_ HE2.out ?_); (rfl))
                | (go_at_call 9; ((with_reducible refine (HC.out _).mono ?_); rintro e w6 ⟨rfl, hg6⟩; have HE6 := Lib.hid (row_grown HE2.out hg6); have HN6 := Lib.hid (row_grown HN2.out hg6); have HG6 := Lib.hid (grown_trans HG2.out hg6); clear hg6))
                | ((with_reducible refine store_en o' (s' : Int) _ _ _ _ (wr.heap.size + 1) ?_ ?_ HN6.out ?_ ?_); (rfl); (rfl); (rfl); have HE7 : Hid ((w6.setRow (wr.heap.size + 1) #[.int .i64 o', .int .u32 (s' : Int)]).heap[eb]? = _) := Lib.hid (row_set HE6.out (by have := HLT.out; omega) _); have HN7 : Hid ((w6.setRow (wr.heap.size + 1) #[.int .i64 o', .int .u32 (s' : Int)]).heap[wr.heap.size + 1]? = _) := Lib.hid (setRow_heap _ _ _ _ _ _ HN6.out); have HG7 : Hid (w.grownBy (w6.setRow (wr.heap.size + 1) #[.int .i64 o', .int .u32 (s' : Int)]) none) := Lib.hid (grown_setRow HG6.out _ (by have := HSZ.out; omega) _); generalize w6.setRow (wr.heap.size + 1) #[.int .i64 o', .int .u32 (s' : Int)] = w7 at HE7 HN7 HG7 ⊢)
                | ((with_reducible refine load_en _ _ _ _ _ (wr.heap.size + 1) ?_ HN7.out ?_); (rfl))
                | ((with_reducible refine store_en o' (s' : Int) _ _ _ _ eb ?_ ?_ HE7.out ?_ ?_); (rfl); (rfl); (rfl); have HE8 : Hid ((w7.setRow eb #[.int .i64 o', .int .u32 (s' : Int)]).heap[eb]? = _) := Lib.hid (setRow_heap _ _ _ _ _ _ HE7.out); have HG8 : Hid (w.grownBy (w7.setRow eb #[.int .i64 o', .int .u32 (s' : Int)]) none) := Lib.hid (grown_setRow HG7.out _ HEB.out _); generalize w7.setRow eb #[.int .i64 o', .int .u32 (s' : Int)] = w8 at HE8 HG8 ⊢)
                | ((with_reducible refine load_en _ _ _ _ _ eb ?_ HE8.out ?_); (rfl))
                | (go_at_call 10; ((with_reducible refine (HY.out _).mono ?_); rintro e w9 ⟨rfl, hg9⟩; have HE9 := Lib.hid (row_grown HE8.out hg9); obtain ⟨c90, c91⟩ := cells2 HE9.out; have HG9 := Lib.hid (grown_trans HG8.out hg9); clear hg9))
                | ((with_reducible refine load_en _ _ _ _ _ eb ?_ HE9.out ?_); (rfl))
                | (go_at_call 12; ((with_reducible refine (HK.out _).mono ?_); rintro e w10 ⟨rfl, hg10⟩; have HE10 := Lib.hid (row_grown HE9.out hg10); have HG10 := Lib.hid (grown_trans HG9.out hg10); clear hg10))
                | (go_at_call 11; ((with_reducible refine (HCT.out _).mono ?_); rintro e w11 ⟨rfl, n11, hw11⟩; have HE11 := Lib.hid (row_grown HE10.out (hw11 ▸ grown_drewN (grown_refl _ _) n11)); have HG11 := Lib.hid (hw11 ▸ grown_drewN HG10.out n11); clear hw11)))
              go_roundw
              case rel => exact ⟨i + 1, by omega, by go_num, o', s', HM'.out, HE9.out, HG9.out⟩
              case measure => simp [intOf]; omega
          · rw [hr] at HQ
            unfold got at HQ
            have HC := HQ
            clear HQ hr
            go_wp2_with (first
              | ((with_reducible refine load_en _ _ _ _ _ eb ?_ HE1.out ?_); (rfl))
              | ((with_reducible refine store_enN o (s : Int) _ _ _ _ ?_ ?_ ?_ ?_); (rfl); (rfl); (rfl))
              | ((with_reducible refine load_en _ _ _ _ _ eb ?_ HE2.out ?_); (rfl))
              | (go_at_call 9; ((with_reducible refine (HC.out _).mono ?_); rintro e w6 ⟨rfl, hg6⟩; have HE6 := Lib.hid (row_grown HE2.out hg6); have HN6 := Lib.hid (row_grown HN2.out hg6); have HG6 := Lib.hid (grown_trans HG2.out hg6); clear hg6))
              | ((with_reducible refine store_en 0 0 _ _ _ _ (wr.heap.size + 1) ?_ ?_ HN6.out ?_ ?_); (rfl); (rfl); (rfl)))
            go_roundw
            case rel => exact ⟨i + 1, by omega, by go_num, o, s, HM.out, row_set HE6.out (by have := HLT.out; omega) _, grown_setRow HG6.out _ (by have := HSZ.out; omega) _⟩
            case measure => simp [intOf]; omega
        · clear hgc HQ
          rcases hbc with ⟨o', s', t, hr, hm'⟩ | hr
          · rw [hr] at HB
            unfold gone at HB
            have HC := HB
            clear HB hr
            have HM' := Lib.hid hm'
            have hs' : s' < 4294967296 := by have := (may_parts hm').2.2.1; omega
            have HY : Hid (∀ w, _) := Lib.hid fun w => may_any o' s' w hs'
            rw [hm'] at HY
            unfold err at HY
            by_cases h0 : 0 ≤ o'
            · have HK : Hid (∀ w, _) := Lib.hid fun w => lknown_any o' s' w hs'
              have hkl := wi_lt s' o' hs'
              have HCT : Hid (∀ w, _) := Lib.hid fun w => count_any (wi s' o') w hkl
              rw [owner_one hm' h0] at HCT
              clear hm' hs' hkl
              generalize wi s' o' = m' at HK HCT
              go_wp2_with (first
                | ((with_reducible refine load_en _ _ _ _ _ eb ?_ HE1.out ?_); (rfl))
                | ((with_reducible refine store_enN o (s : Int) _ _ _ _ ?_ ?_ ?_ ?_); (rfl); (rfl); (rfl))
                | ((with_reducible refine load_en _ _ _ _ _ eb ?_ HE2.out ?_); (rfl))
                | (go_at_call 5; ((with_reducible refine (HC.out _).mono ?_); rintro e w6 ⟨rfl, hg6⟩; have HE6 := Lib.hid (row_grown HE2.out hg6); have HN6 := Lib.hid (row_grown HN2.out hg6); have HG6 := Lib.hid (grown_trans HG2.out hg6); clear hg6))
                | ((with_reducible refine store_en o' (s' : Int) _ _ _ _ (wr.heap.size + 1) ?_ ?_ HN6.out ?_ ?_); (rfl); (rfl); (rfl); have HE7 : Hid ((w6.setRow (wr.heap.size + 1) #[.int .i64 o', .int .u32 (s' : Int)]).heap[eb]? = _) := Lib.hid (row_set HE6.out (by have := HLT.out; omega) _); have HN7 : Hid ((w6.setRow (wr.heap.size + 1) #[.int .i64 o', .int .u32 (s' : Int)]).heap[wr.heap.size + 1]? = _) := Lib.hid (setRow_heap _ _ _ _ _ _ HN6.out); have HG7 : Hid (w.grownBy (w6.setRow (wr.heap.size + 1) #[.int .i64 o', .int .u32 (s' : Int)]) none) := Lib.hid (grown_setRow HG6.out _ (by have := HSZ.out; omega) _); generalize w6.setRow (wr.heap.size + 1) #[.int .i64 o', .int .u32 (s' : Int)] = w7 at HE7 HN7 HG7 ⊢)
                | ((with_reducible refine load_en _ _ _ _ _ (wr.heap.size + 1) ?_ HN7.out ?_); (rfl))
                | ((with_reducible refine store_en o' (s' : Int) _ _ _ _ eb ?_ ?_ HE7.out ?_ ?_); (rfl); (rfl); (rfl); have HE8 : Hid ((w7.setRow eb #[.int .i64 o', .int .u32 (s' : Int)]).heap[eb]? = _) := Lib.hid (setRow_heap _ _ _ _ _ _ HE7.out); have HG8 : Hid (w.grownBy (w7.setRow eb #[.int .i64 o', .int .u32 (s' : Int)]) none) := Lib.hid (grown_setRow HG7.out _ HEB.out _); generalize w7.setRow eb #[.int .i64 o', .int .u32 (s' : Int)] = w8 at HE8 HG8 ⊢)
                | ((with_reducible refine load_en _ _ _ _ _ eb ?_ HE8.out ?_); (rfl))
                | (go_at_call 10; ((with_reducible refine (HY.out _).mono ?_); rintro e w9 ⟨rfl, hg9⟩; have HE9 := Lib.hid (row_grown HE8.out hg9); obtain ⟨c90, c91⟩ := cells2 HE9.out; have HG9 := Lib.hid (grown_trans HG8.out hg9); clear hg9))
                | ((with_reducible refine load_en _ _ _ _ _ eb ?_ HE9.out ?_); (rfl))
                | (go_at_call 12; ((with_reducible refine (HK.out _).mono ?_); rintro e w10 ⟨rfl, hg10⟩; have HE10 := Lib.hid (row_grown HE9.out hg10); have HG10 := Lib.hid (grown_trans HG9.out hg10); clear hg10))
                | (go_at_call 11; ((with_reducible refine (HCT.out _).mono ?_); rintro e w11 ⟨rfl, n11, hw11⟩; have HE11 := Lib.hid (row_grown HE10.out (hw11 ▸ grown_drewN (grown_refl _ _) n11)); have HG11 := Lib.hid (hw11 ▸ grown_drewN HG10.out n11); clear hw11)))
              go_roundw
              case rel => exact ⟨i + 1, by omega, by go_num, o', s', HM'.out, HE11.out, HG11.out⟩
              case measure => simp [intOf]; omega
            · clear hm' hs'
              go_wp2_with (first
                | ((with_reducible refine load_en _ _ _ _ _ eb ?_ HE1.out ?_); (rfl))
                | ((with_reducible refine store_enN o (s : Int) _ _ _ _ ?_ ?_ ?_ ?_); (rfl); (rfl); (rfl))
                | ((with_reducible refine load_en _ _ _ _ _ eb ?_ HE2.out ?_); (rfl))
                | (go_at_call 5; ((with_reducible refine (HC.out _).mono ?_); rintro e w6 ⟨rfl, hg6⟩; have HE6 := Lib.hid (row_grown HE2.out hg6); have HN6 := Lib.hid (row_grown HN2.out hg6); have HG6 := Lib.hid (grown_trans HG2.out hg6); clear hg6))
                | ((with_reducible refine store_en o' (s' : Int) _ _ _ _ (wr.heap.size + 1) ?_ ?_ HN6.out ?_ ?_); (rfl); (rfl); (rfl); have HE7 : Hid ((w6.setRow (wr.heap.size + 1) #[.int .i64 o', .int .u32 (s' : Int)]).heap[eb]? = _) := Lib.hid (row_set HE6.out (by have := HLT.out; omega) _); have HN7 : Hid ((w6.setRow (wr.heap.size + 1) #[.int .i64 o', .int .u32 (s' : Int)]).heap[wr.heap.size + 1]? = _) := Lib.hid (setRow_heap _ _ _ _ _ _ HN6.out); have HG7 : Hid (w.grownBy (w6.setRow (wr.heap.size + 1) #[.int .i64 o', .int .u32 (s' : Int)]) none) := Lib.hid (grown_setRow HG6.out _ (by have := HSZ.out; omega) _); generalize w6.setRow (wr.heap.size + 1) #[.int .i64 o', .int .u32 (s' : Int)] = w7 at HE7 HN7 HG7 ⊢)
                | ((with_reducible refine load_en _ _ _ _ _ (wr.heap.size + 1) ?_ HN7.out ?_); (rfl))
                | ((with_reducible refine store_en o' (s' : Int) _ _ _ _ eb ?_ ?_ HE7.out ?_ ?_); (rfl); (rfl); (rfl); have HE8 : Hid ((w7.setRow eb #[.int .i64 o', .int .u32 (s' : Int)]).heap[eb]? = _) := Lib.hid (setRow_heap _ _ _ _ _ _ HE7.out); have HG8 : Hid (w.grownBy (w7.setRow eb #[.int .i64 o', .int .u32 (s' : Int)]) none) := Lib.hid (grown_setRow HG7.out _ HEB.out _); generalize w7.setRow eb #[.int .i64 o', .int .u32 (s' : Int)] = w8 at HE8 HG8 ⊢)
                | ((with_reducible refine load_en _ _ _ _ _ eb ?_ HE8.out ?_); (rfl))
                | (go_at_call 10; ((with_reducible refine (HY.out _).mono ?_); rintro e w9 ⟨rfl, hg9⟩; have HE9 := Lib.hid (row_grown HE8.out hg9); obtain ⟨c90, c91⟩ := cells2 HE9.out; have HG9 := Lib.hid (grown_trans HG8.out hg9); clear hg9))
                | ((with_reducible refine load_en _ _ _ _ _ eb ?_ HE9.out ?_); (rfl))
                | (go_at_call 12; ((with_reducible refine (HK.out _).mono ?_); rintro e w10 ⟨rfl, hg10⟩; have HE10 := Lib.hid (row_grown HE9.out hg10); have HG10 := Lib.hid (grown_trans HG9.out hg10); clear hg10))
                | (go_at_call 11; ((with_reducible refine (HCT.out _).mono ?_); rintro e w11 ⟨rfl, n11, hw11⟩; have HE11 := Lib.hid (row_grown HE10.out (hw11 ▸ grown_drewN (grown_refl _ _) n11)); have HG11 := Lib.hid (hw11 ▸ grown_drewN HG10.out n11); clear hw11)))
              go_roundw
              case rel => exact ⟨i + 1, by omega, by go_num, o', s', HM'.out, HE9.out, HG9.out⟩
              case measure => simp [intOf]; omega
          · rw [hr] at HB
            unfold gone at HB
            have HC := HB
            clear HB hr
            go_wp2_with (first
              | ((with_reducible refine load_en _ _ _ _ _ eb ?_ HE1.out ?_); (rfl))
              | ((with_reducible refine store_enN o (s : Int) _ _ _ _ ?_ ?_ ?_ ?_); (rfl); (rfl); (rfl))
              | ((with_reducible refine load_en _ _ _ _ _ eb ?_ HE2.out ?_); (rfl))
              | (go_at_call 5; ((with_reducible refine (HC.out _).mono ?_); rintro e w6 ⟨rfl, hg6⟩; have HE6 := Lib.hid (row_grown HE2.out hg6); have HN6 := Lib.hid (row_grown HN2.out hg6); have HG6 := Lib.hid (grown_trans HG2.out hg6); clear hg6))
              | ((with_reducible refine store_en 0 0 _ _ _ _ (wr.heap.size + 1) ?_ ?_ HN6.out ?_ ?_); (rfl); (rfl); (rfl)))
            go_roundw
            case rel => exact ⟨i + 1, by omega, by go_num, o, s, HM.out, row_set HE6.out (by have := HLT.out; omega) _, grown_setRow HG6.out _ (by have := HSZ.out; omega) _⟩
            case measure => simp [intOf]; omega
      · obtain rfl : i = len := by omega
        have HG := Lib.hid hG
        clear hm hs hE hG
        go_wp2_with (go_at_call 7; ((with_reducible refine (HW.out _).mono ?_); rintro e w7 ⟨rfl, hg7⟩; have HG7 := Lib.hid (grown_trans HG.out hg7); clear hg7))
        go_ret
        exact ⟨rfl, HG7.out⟩
  · have hd : decide (300 < len) = true := decide_eq_true (by omega)
    go_enter Try.func4, Try.ntmps4
    go_wp2_with (go_at_call 7; ((with_reducible refine (HW.out _).mono ?_); rintro e w7 ⟨rfl, hg7⟩; have HG7 := Lib.hid hg7; clear hg7))
    go_ret
    exact ⟨rfl, HG7.out⟩
end Go.Proofs.Ytplebmafdfciaaa.en
