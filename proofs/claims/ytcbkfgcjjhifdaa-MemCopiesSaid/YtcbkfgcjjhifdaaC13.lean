/-
  The law MemCopies returns true: the walk. No condition but the bounds that each theorem names.
-/
import Derived.Test.YtcbkfgcjjhifdaaC10
import Derived.Test.YtcbkfgcjjhifdaaC9
import Derived.Test.YtcbkfgcjjhifdaaC5
namespace Go.Proofs.Ytcbkfgcjjhifdaa.pp
open Go Go.ChangeShapes Go.WideShapes Go.ChangeAt Go.RowKit
set_option linter.unusedVariables false

/-- The array of four blocks in block D: its first k are those of bs. -/
def Was (w : World) (D k : Nat) (bs : List (List Int)) : Prop := ∃ cur : Array Value, w.heap[D]? = some (.cells cur 51 (0, 0)) ∧ cur.size = 64 ∧ ∀ (i : Nat) x, i < k → bs[i]? = some x → ∀ (j : Nat) u, (rl x)[j]? = some u → cur[i * 16 + j]? = some u
theorem Was.grown {w w' : World} {D k : Nat} {bs : List (List Int)} (h : Was w D k bs) {own : Option Nat} (hg : w.grownBy w' own) (hD : some D ≠ own) : Was w' D k bs := by
  obtain ⟨cur, h1, h2, h3⟩ := h
  exact ⟨cur, (hg.block D (Array.getElem?_eq_some_iff.1 h1).1 hD).trans h1, h2, h3⟩
theorem Was.lt {w : World} {D k : Nat} {bs : List (List Int)} (h : Was w D k bs) : D < w.heap.size := by
  obtain ⟨cur, h1, _⟩ := h
  exact (Array.getElem?_eq_some_iff.1 h1).1
theorem Was.there {w : World} {D k : Nat} {bs : List (List Int)} (h : Was w D k bs) (i : Nat) (hi : i < 4) : w.there D (i * 16) 16 := fun j hj => by
  obtain ⟨cur, h1, h2, _⟩ := h
  rw [cell_of_row _ _ _ _ _ _ h1, Array.getElem?_eq_getElem (by omega)]
  exact ⟨rfl, frozen_of_row _ _ _ _ _ h1⟩
theorem Was.range {w : World} {D k : Nat} {bs : List (List Int)} (h : Was w D k bs) (i : Nat) (x : List Int) (hi : i < k) (hx : bs[i]? = some x) : w.rangeAt D (i * 16) (rl x) := fun j u hu => by
  obtain ⟨cur, h1, _, h3⟩ := h
  rw [cell_of_row _ _ _ _ _ _ h1]
  exact h3 i x hi hx j u hu
theorem rl_len (x : List Int) : (rl x).length = x.length := by simp [rl]
theorem Was.put {w : World} {D k : Nat} {bs : List (List Int)} (h : Was w D k bs) (x : List Int) (hx : bs[k]? = some x) (hl : x.length = 16) (hk : k < 4) (hb : ∀ y ∈ bs, y.length = 16) : Was (w.setCells D (k * 16) (rl x)) D (k + 1) bs ∧ w.grownBy (w.setCells D (k * 16) (rl x)) (some D) := by
  obtain ⟨cur, h1, h2, h3⟩ := h
  obtain ⟨cur', g1, g2, g3, g4⟩ := heap_setCells D 51 (rl x) (k * 16) w cur h1 (by rw [rl_len]; omega)
  obtain ⟨r1, r2, r3, r4⟩ := setCells_rest D (rl x) (k * 16) w
  refine ⟨⟨cur', g1, by omega, fun i y hi hy j u hu => ?_⟩, ⟨r1, r2, r3, by omega, fun i hi hn => heap_setCells_other D i (fun e => hn (by rw [e])) _ _ _⟩⟩
  have hj : j < y.length := by have := (List.getElem?_eq_some_iff.1 hu).1; rwa [rl_len] at this
  have hy16 : y.length = 16 := hb y (List.mem_of_getElem? hy)
  by_cases hik : i = k
  · subst hik
    rw [hx] at hy; cases hy
    exact g4 j u hu
  · rw [g3 _ (.inl (by omega))]
    exact h3 i y (by omega) hy j u hu

theorem Mem.bl {w : World} {b : Nat} {v : Value} {bs : List (List Int)} (h : Mem w b v bs) (k : Nat) (hk : v.ownBlock = some k) : ∃ c, w.heap[k]? = some (.cells c 55 (0, 0)) := by
  obtain ⟨ps, h1, _⟩ := h.sl
  rcases h1 with ⟨rfl, _⟩ | ⟨g, off, cap, cur, rfl, hg, _⟩
  · simp [Value.ownBlock] at hk
  · simp [Value.ownBlock] at hk; subst hk; exact ⟨cur, hg⟩
/-- A memory beside one that was written. -/
theorem Mem.beside {w w' : World} {b b2 : Nat} {v v2 : Value} {bs bs2 : List (List Int)} (h : Mem w b v bs) (h2 : Mem w b2 v2 bs2) (hg : w.grownBy w' v2.ownBlock) (hne : ∀ k, v2.ownBlock = some k → some k ≠ v.ownBlock) : Mem w' b v bs :=
  h.grown hg fun k hk => by
    obtain ⟨c, hc⟩ := h2.bl k hk
    exact ⟨hne k hk, c, 55, _, hc, by decide, by decide⟩
/-- A memory beside the array. -/
theorem Mem.was {w w' : World} {b D k : Nat} {v : Value} {bs bs2 : List (List Int)} (h : Mem w b v bs) (h2 : Was w D k bs2) (hg : w.grownBy w' (some D)) : Mem w' b v bs := by
  obtain ⟨cur, h1, _⟩ := h2
  refine h.grown hg fun i hi => ?_
  cases hi
  refine ⟨fun e => ?_, cur, 51, _, h1, by decide, by decide⟩
  obtain ⟨c, hc⟩ := h.bl D e.symm
  exact tyne h1 hc (by decide) rfl

section
variable {w : World} {ops : Array Oper} {rest : List Oper} {a : Act} {Q : Exit → Act → World → Prop} {dst : Option Tmp} {ty : TypeId} {pos : String} {after : Array Edge}
theorem zero51 : ∃ cs : Array Value, cs.size = 64 ∧ ∀ w, (zeroValue 51).run Try.prog w = .ok (.agg cs) w := ⟨_, rfl, Try.zeroValue51⟩
/-- The variable that is an array of four blocks. -/
theorem alloc_was (cs : Array Value) (hz : ∀ w, (zeroValue 51).run Try.prog w = .ok (.agg cs) w) (h : wpList Try.prog ops Q rest (a.put dst (.pointer (some ⟨w.heap.size, 0, none⟩))) (w.alloc (.cells cs 51))) : wpList Try.prog ops Q (⟨dst, .alloc 51, ty, pos, after, none⟩ :: rest) a w := by
  refine wpList_plain rfl fun K hK => ?_
  unfold Oper.wp execOp
  simp only [Instr.alloc, Sem.run_bind, hz, Result.andThen_ok]
  exact hK _ _ h
/-- A block into the middle of it. -/
theorem store_mid (c : List Int) (x y : Tmp) (g o : Nat) (hx : a.eval (.tmp x) = .pointer (some ⟨g, o, none⟩)) (hy : a.eval (.tmp y) = .agg (row c)) (hc : c.length = 16) (hg : w.there g o 16)
    (h : wpList Try.prog ops Q rest (a.put dst undef) (w.setCells g o (rl c))) : wpList Try.prog ops Q (⟨dst, .store 30 (.tmp x) (.tmp y), ty, pos, after, none⟩ :: rest) a w :=
  wpList_store_mid rfl 30 (.tmp x) (.tmp y) rfl g o (row c) hx hy (by rw [row_size, hc]; exact hg) (info30' c hc) (row_one c) h
end

theorem named2 : ∃ (t : TypeId) (n : Nat), Hid (Op.load 30 = Op.load t) ∧ (∀ w, (isAgg t).run Try.prog w = .ok true w) ∧ (∀ w, (sizeOf t).run Try.prog w = .ok n w) ∧
    ∀ (g o : Nat) (x : List Int), x.length = 16 → ∀ w : World, w.rangeAt g o (rl x) → (loadCellsFrom ⟨g, o, none⟩ 0 n #[]).run Try.prog w = .ok (row x) w :=
  ⟨30, 16, Lib.hid rfl, Try.isAgg30, Try.sizeOf30, fun g o x hx w h => by
    have := run_loadCells_list (P := Try.prog) w ⟨g, o, none⟩ (rl x) (fun j v hv => by rw [add_lit]; exact h j v hv)
    simpa [loadCells, rl, hx, row] using this⟩

set_option maxHeartbeats 4000000 in
theorem copies_true (s1 s2 : List OpX) (ad1 ad2 : Option Addr) (len1 len2 cap1 cap2 : Nat) (w : World) (hl1 : len1 = s1.length) (hl2 : len2 = s2.length) (ha1 : OpsAt w ad1 s1) (ha2 : OpsAt w ad2 s2) :
    Calls Try.prog 8 #[.slice ad1 len1 cap1, .slice ad2 len2 cap2] w fun e w' => e = .returned (.bool true) ∧ w.grownBy w' none := by
  by_cases h1 : 300 < len1
  · have hd : decide ((300 : Int) < (len1 : Int)) = true := by simp; omega
    clear hl1 hl2 ha1 ha2
    go_enter Try.func8, Try.ntmps8
    go_wp2_with (go_at_call 15; ((refine (works_any _).mono ?_); rintro e w3 ⟨rfl, hg3⟩))
    go_ret
    exact ⟨rfl, hg3⟩
  by_cases h2 : 300 < len2
  · have hd : decide ((300 : Int) < (len1 : Int)) = false := by simp; omega
    have hd2 : decide ((300 : Int) < (len2 : Int)) = true := by simp; omega
    clear hl1 hl2 ha1 ha2
    go_enter Try.func8, Try.ntmps8
    go_wp2_with (go_at_call 15; ((refine (works_any _).mono ?_); rintro e w3 ⟨rfl, hg3⟩))
    go_ret
    exact ⟨rfl, hg3⟩
  have hd : decide ((300 : Int) < (len1 : Int)) = false := by simp; omega
  have hd2 : decide ((300 : Int) < (len2 : Int)) = false := by simp; omega
  have hn := new_ok 4 w (by omega) (by omega)
  rw [show ((4 : Nat) : Int) = 4 from rfl] at hn
  have HN := Lib.hid hn
  have HA1 := Lib.hid ha1
  have HA2 := Lib.hid ha2
  have HL1 := Lib.hid hl1
  have HL2 := Lib.hid hl2
  obtain ⟨z51, hz64, hz⟩ := zero51
  have HZ := Lib.hid hz
  have HZ64 := Lib.hid hz64
  have hle1 : len1 ≤ 300 := by omega
  have hle2 : len2 ≤ 300 := by omega
  clear hn ha1 ha2 hl1 hl2 h1 h2 hz hz64
  go_enter Try.func8, Try.ntmps8
  go_wp2_with (go_at_call 10; ((with_reducible refine HN.out.mono ?_); rintro e w1 ⟨mb, mv, rfl, hm1, hg1, hmb, hv1⟩; have HM1 := Lib.hid hm1; have HG1 := Lib.hid hg1; have HV := Lib.hid hv1; have HMB := Lib.hid hmb; clear hm1 hg1 hv1 hmb))
  go_loopw [34] (fun i wr => ∃ (j : Nat) (bs : List (List Int)), j ≤ len1 ∧ i = .int .i64 (j : Int) ∧ bs.length = 4 ∧ Mem wr mb mv bs ∧ w.grownBy wr none) (fun i _ => len1 - (intOf i).toNat)
  case atStart => exact ⟨0, _, Nat.zero_le _, rfl, by simp, HM1.out, HG1.out⟩
  case round =>
    obtain ⟨j, bs, hj, rfl, hb4, hm, hg⟩ := hrel
    have HB4 := Lib.hid hb4
    have HM := Lib.hid hm
    have HG := Lib.hid hg
    clear hb4 hm hg
    by_cases hlt : j < len1
    · obtain ⟨q, hq⟩ : ∃ q, s1[j]? = some q := ⟨_, List.getElem?_eq_getElem (by have := HL1.out; omega)⟩
      obtain ⟨g, off, rfl, c0, c1, c2, c3⟩ := (HA1.out.grown HG.out) j q hq
      clear hq
      rw [← Nat.add_assoc] at c1 c2 c3
      go_wp2_with (go_at_call 16; ((refine (set_word_any (HM.out.kept (grown_alloc (grown_refl _ _) _)) q.block q.word q.x).mono ?_); rintro e w2 ⟨rfl, hm2, hg2⟩; have HM2 := Lib.hid hm2; have HG2 := Lib.hid (grown_fresh (grown_alloc HG.out _) hg2 HV.out); clear hm2 hg2))
      go_roundw
      case rel => exact ⟨j + 1, _, by omega, by go_num, by rw [setW_length]; exact HB4.out, HM2.out, HG2.out⟩
      case measure => simp [intOf]; omega
    · obtain rfl : j = len1 := by omega
      clear hlt hj
      go_wp2_with (first
        | (go_at_call 19; ((refine (copy_any mb mv bs wr HM.out (by rw [HB4.out]; omega)).mono ?_); rintro e w2 ⟨nb, nv, rfl, hn2, hg2, hnb, hnv⟩; have HN2 := Lib.hid hn2; have HM2 := Lib.hid (HM.out.kept hg2); have HG2 := Lib.hid (grown_trans HG.out hg2); have HNV := Lib.hid hnv; have HNB := Lib.hid hnb; clear hn2 hg2 hnb hnv))
        | ((with_reducible refine alloc_was z51 HZ.out ?_)))
      have HNW : Hid (∀ k, nv.ownBlock = some k → w.heap.size ≤ k ∧ some k ≠ mv.ownBlock) := Lib.hid fun k hk => by
        have h0 := HNV.out k hk
        refine ⟨Nat.le_trans HG.out.size h0, fun e => ?_⟩
        obtain ⟨c, hc⟩ := HM.out.bl k e.symm
        have := (Array.getElem?_eq_some_iff.1 hc).1
        omega
      obtain ⟨D, hD⟩ : ∃ D, D = w2.heap.size := ⟨_, rfl⟩
      have HWD : Hid (w.heap.size ≤ D) := Lib.hid (by rw [hD]; exact HG2.out.size)
      have HDN : Hid (some D ≠ nv.ownBlock) := Lib.hid fun e => by
        obtain ⟨c, hc⟩ := HN2.out.bl D e.symm
        have := (Array.getElem?_eq_some_iff.1 hc).1
        omega
      have HW0 : Hid (Was (w2.alloc (.cells z51 51)) D 0 bs) := Lib.hid ⟨z51, by rw [hD]; exact heap_alloc_new _ _, HZ64.out, fun i x hi => by omega⟩
      have HM3 := Lib.hid (HM2.out.kept (grown_alloc (grown_refl _ _) (.cells z51 51)))
      have HN3 := Lib.hid (HN2.out.kept (grown_alloc (grown_refl _ _) (.cells z51 51)))
      have HG3 := Lib.hid (grown_alloc HG2.out (.cells z51 51))
      rw [← hD]
      clear hD
      go_loopw [49] (fun i wr => ∃ k : Nat, k ≤ 4 ∧ i = .int .i64 (k : Int) ∧ Mem wr mb mv bs ∧ Mem wr nb nv bs ∧ Was wr D k bs ∧ w.grownBy wr none) (fun i _ => 4 - (intOf i).toNat)
      case atStart => exact ⟨0, by omega, rfl, HM3.out, HN3.out, HW0.out, HG3.out⟩
      case round =>
        obtain ⟨k, hk, rfl, hm, hn, hw, hg⟩ := hrel
        have HMr := Lib.hid hm
        have HNr := Lib.hid hn
        have HWr := Lib.hid hw
        have HGr := Lib.hid hg
        clear hm hn hw hg
        by_cases hlt : k < 4
        · obtain ⟨x, hx⟩ : ∃ x, bs[k]? = some x := ⟨_, List.getElem?_eq_getElem (by rw [HB4.out]; exact hlt)⟩
          have hx16 := HMr.out.len x (List.mem_of_getElem? hx)
          have HX16 := Lib.hid hx16
          have HBI := Lib.hid (block_in mb mv bs k x wr HMr.out hx)
          have HXX := Lib.hid hx
          clear hx hx16
          go_wp2_with (first
            | (go_at_call 14; ((with_reducible refine HBI.out.mono ?_); rintro e w5 ⟨rfl, hw5⟩; have hg5 := grown_row hw5; have HG5 := Lib.hid hg5; have HW5 := Lib.hid (HWr.out.grown hg5 (by simp)); clear hw5 hg5))
            | ((with_reducible refine store_mid x 59 57 D (k * 16) ?_ ?_ HX16.out (HW5.out.there k hlt) ?_); (rfl); (rfl)))
          obtain ⟨hW6, hG6⟩ := HW5.out.put x HXX.out HX16.out hlt HMr.out.len
          go_roundw
          case rel => exact ⟨k + 1, by omega, by go_num, (HMr.out.kept HG5.out).was HW5.out hG6, (HNr.out.kept HG5.out).was HW5.out hG6, hW6, grown_fresh (grown_trans HGr.out HG5.out) hG6 fun g hg => by cases hg; exact HWD.out⟩
          case measure => simp [intOf]; omega
        · obtain rfl : k = 4 := by omega
          clear hlt hk
          go_wp2_with fail
          go_loopw [63] (fun i wr => ∃ (j : Nat) (bs2 : List (List Int)), j ≤ len2 ∧ i = .int .i64 (j : Int) ∧ bs2.length = 4 ∧ Mem wr mb mv bs ∧ Mem wr nb nv bs2 ∧ Was wr D 4 bs ∧ w.grownBy wr none) (fun i _ => len2 - (intOf i).toNat)
          case atStart => exact ⟨0, bs, Nat.zero_le _, rfl, HB4.out, HMr.out, HNr.out, HWr.out, HGr.out⟩
          case round =>
            obtain ⟨i2, bs2, hj, rfl, hb4, hm, hn, hw, hg⟩ := hrel
            have HB24 := Lib.hid hb4
            have HM7 := Lib.hid hm
            have HN7 := Lib.hid hn
            have HW7 := Lib.hid hw
            have HG7 := Lib.hid hg
            clear hb4 hm hn hw hg
            by_cases hlt : i2 < len2
            · obtain ⟨q, hq⟩ : ∃ q, s2[i2]? = some q := ⟨_, List.getElem?_eq_getElem (by have := HL2.out; omega)⟩
              obtain ⟨g, off, rfl, c0, c1, c2, c3⟩ := (HA2.out.grown HG7.out) i2 q hq
              clear hq
              rw [← Nat.add_assoc] at c1 c2 c3
              have HGA : Hid (wr.grownBy (wr.alloc (.cells #[.int .i64 q.kind, .int .i64 q.block, .int .i64 q.word, .int .u32 q.x] 46)) none) := Lib.hid (grown_alloc (grown_refl _ _) _)
              have HPN : Hid (some wr.heap.size ≠ nv.ownBlock) := Lib.hid fun e => by
                obtain ⟨c, hc⟩ := HN7.out.bl _ e.symm
                have := (Array.getElem?_eq_some_iff.1 hc).1
                omega
              have HNA := Lib.hid (HN7.out.kept HGA.out)
              have HMA := Lib.hid (HM7.out.kept HGA.out)
              have HWA := Lib.hid (HW7.out.grown HGA.out (by simp))
              have HPA := Lib.hid (heap_alloc_new wr (.cells #[.int .i64 q.kind, .int .i64 q.block, .int .i64 q.word, .int .u32 q.x] 46))
              go_wp2_with (go_at_call 16; ((with_reducible refine (set_word_any HNA.out q.block q.word q.x).mono ?_); rintro e w8 ⟨rfl, hn8, hg8⟩; have hp8 := (hg8.block wr.heap.size (by simp) HPN.out).trans HPA.out; have HN8 := Lib.hid hn8; have HM8 := Lib.hid (HMA.out.beside HNA.out hg8 (fun k hk => (HNW.out k hk).2)); have HW8 := Lib.hid (HWA.out.grown hg8 HDN.out); have HG8 := Lib.hid (grown_fresh (grown_trans HG7.out HGA.out) hg8 (fun k hk => (HNW.out k hk).1)); have p1 : w8.cell? ⟨wr.heap.size, 1, none⟩ = some (.int .i64 q.block) := (by rw [cell_of_row _ _ 1 _ _ _ hp8]; rfl); have p3 : w8.cell? ⟨wr.heap.size, 3, none⟩ = some (.int .u32 q.x) := (by rw [cell_of_row _ _ 3 _ _ _ hp8]; rfl); clear hn8 hg8 hp8))
              clear c0 c1 c2 c3
              have HD8 : Hid (w8.grownBy w8.drew none) := Lib.hid ⟨rfl, rfl, rfl, Nat.le_refl _, fun _ _ _ => rfl⟩
              go_region_with (first
                | (go_at_call 13; ((with_reducible refine (all_any q.x _).mono ?_); rintro e w9 ⟨rfl, hg9⟩; have hp1 : w9.cell? ⟨wr.heap.size, 1, none⟩ = some (.int .i64 q.block) := hg9.cell (show w8.drew.cell? _ = _ from p1) (by simp); have HG9 := Lib.hid (grown_trans HD8.out hg9); clear hg9))
                | (go_at_call 17; ((with_reducible refine (set_block_any (HN8.out.kept HG9.out) q.block (allX q.x) (allX_len _)).mono ?_); rintro e w10 ⟨rfl, hn10, hg10⟩; have HN10 := Lib.hid hn10; have HG10 := Lib.hid hg10; clear hn10 hg10)))
              all_goals
                go_wp2_with fail
                refine ⟨⟨_, _, _, _, _, _, _, _, _, _, _, _, _, _, _, _, _, _, _, _, _, ?rel, rfl⟩, ?meas⟩
                case rel => exact ⟨i2 + 1, _, by omega, by go_num, by rw [setB_length, setW_length]; exact HB24.out, (HM8.out.kept HG9.out).beside (HN8.out.kept HG9.out) HG10.out (fun k hk => (HNW.out k hk).2), HN10.out, (HW8.out.grown HG9.out (by simp)).grown HG10.out HDN.out, grown_fresh (grown_trans HG8.out HG9.out) HG10.out (fun k hk => (HNW.out k hk).1)⟩
                case meas =>
                  show len2 - (intOf (.int .i64 ((i2 : Int) + 1))).toNat < len2 - (intOf (.int .i64 (i2 : Int))).toNat
                  simp [intOf]; omega
            · obtain rfl : i2 = len2 := by omega
              clear hlt hj
              obtain ⟨t, n, HT, hagg, hsize, hld⟩ := named2
              go_wp2_with fail
              go_loopw [83] (fun i wr => ∃ k : Nat, k ≤ 4 ∧ i = .int .i64 (k : Int) ∧ Mem wr mb mv bs ∧ Mem wr nb nv bs2 ∧ Was wr D 4 bs ∧ w.grownBy wr none) (fun i _ => 4 - (intOf i).toNat)
              case atStart => exact ⟨0, by omega, rfl, HM7.out, HN7.out, HW7.out, HG7.out⟩
              case round =>
                obtain ⟨k, hk, rfl, hm, hn, hw, hg⟩ := hrel
                have HMz := Lib.hid hm
                have HNz := Lib.hid hn
                have HWz := Lib.hid hw
                have HGz := Lib.hid hg
                clear hm hn hw hg
                by_cases hlt : k < 4
                · obtain ⟨x, hx⟩ : ∃ x, bs[k]? = some x := ⟨_, List.getElem?_eq_getElem (by rw [HB4.out]; exact hlt)⟩
                  have hx16 := HMz.out.len x (List.mem_of_getElem? hx)
                  have HX16 := Lib.hid hx16
                  have hq : ∀ w, (binOp .neq 30 (.agg (row x)) (.agg (row x))).run Try.prog w = .ok (.bool false) w := fun w => by rw [q30 w _ _ hx16 hx16]; simp
                  have HBI := Lib.hid (block_in mb mv bs k x wr HMz.out hx)
                  have HXX := Lib.hid hx
                  have lD := hld D (k * 16) x hx16
                  have lE := fun g => hld g 0 x hx16
                  clear hx hx16 hld
                  go_wp2_with (first
                    | (go_at_call 14; ((with_reducible refine HBI.out.mono ?_); rintro e w15 ⟨rfl, hw15⟩; have hg15 := grown_row hw15; have HG15 := Lib.hid hg15; have HW15 := Lib.hid (HWz.out.grown hg15 (by simp)); clear hw15 hg15))
                    | ((with_reducible refine store_new' x 15 90 ?_ ?_ HX16.out ?_); (rfl); (rfl)))
                  have lF := lE w15.heap.size
                  have HG16 := Lib.hid (grown_alloc HG15.out (.cells (row x) 30))
                  have HS : Hid ((w15.alloc (.cells (row x) 30)).drew.rangeAt D (k * 16) (rl x) ∧ (w15.alloc (.cells (row x) 30)).drew.rangeAt w15.heap.size 0 (rl x)) := Lib.hid ⟨(HWz.out.grown (own := none) (w' := (w15.alloc (.cells (row x) 30)).drew) ⟨HG16.out.os, HG16.out.tape, HG16.out.output, HG16.out.size, HG16.out.block⟩ (by simp)).range k x hlt HXX.out, range_of (heap_alloc_new _ _)⟩
                  clear lE
                  rw [HT.out]
                  go_region_held (fun w' => w'.rangeAt D (k * 16) (rl x) ∧ w'.rangeAt w15.heap.size 0 (rl x)) (exact HS.out) (fail)
                  have HGd : Hid (wr.grownBy (w15.alloc (.cells (row x) 30)).drew none) := Lib.hid ⟨HG16.out.os, HG16.out.tape, HG16.out.output, HG16.out.size, HG16.out.block⟩
                  go_wp2_with fail
                  refine ⟨⟨_, _, _, _, _, _, _, _, _, _, _, _, _, _, _, _, _, _, _, ?rel, rfl⟩, ?meas⟩
                  case rel => exact ⟨k + 1, by omega, by go_num, HMz.out.kept HGd.out, HNz.out.kept HGd.out, HWz.out.grown HGd.out (by simp), grown_trans HGz.out HGd.out⟩
                  case meas =>
                    show 4 - (intOf (.int .i64 ((k : Int) + 1))).toNat < 4 - (intOf (.int .i64 (k : Int))).toNat
                    simp [intOf]; omega
                · obtain rfl : k = 4 := by omega
                  clear hlt hk
                  have HBL := Lib.hid (blocks_any nb nv bs2 wr HNz.out)
                  rw [HB24.out] at HBL
                  go_wp2_with (first
                    | (go_at_call 18; ((refine HBL.out.mono ?_); rintro e w' ⟨rfl, rfl⟩))
                    | (go_at_call 15; ((refine (works_any _).mono ?_); rintro e w17 ⟨rfl, hg17⟩; have HG17 := Lib.hid hg17; clear hg17)))
                  go_ret
                  exact ⟨rfl, grown_trans HGz.out HG17.out⟩
end Go.Proofs.Ytcbkfgcjjhifdaa.pp
