/-
  What a pool of backs is behind Put and Take, and what these and Copy answer: contracts. No condition but the bounds that each theorem names.
-/
import Derived.Test.YtoifeinkaaclmaaDoorBkN
namespace Go.Proofs.YtoifeinkaaclmaaDoor.bk
open Go Go.ChangeShapes Go.WideShapes Go.ChangeAt Go.RowKit
open Go.Proofs.YtoifeinkaaclmaaDoor.tt (U zd row tyne add_lit lt_of range_grown setCells_rest heap_setCells_other grown_setCells grown_setRow grown_new grown_drewN below_of grown_alloc grown_refl grown_trans grown_drew Sl run_append_sl append_sl step_append_sl tail_sl head_sl Pool Turn Next src_one src_one' flat flat_len flat_at flat_take flat_drop flat_append flat_one flat_single flat_erase heap_setCells)
set_option linter.unusedVariables false

/-- A slice built of one back: its cells. -/
theorem build_ba (n : Bk) : Array.foldl (fun (cs : Array Value) (x : Value × Nat) => cs.setIfInBounds x.snd x.fst) #[.int .i64 0, .int .u32 0, .int .u32 0, .int .u32 0, .int .u32 0, .int .u32 0, .int .u32 0, .int .u32 0, .int .u32 0, .int .u32 0, .int .u32 0, .int .u32 0, .int .u32 0, .int .u32 0, .int .u32 0, .int .u32 0, .int .u32 0, .bool false] (ba n).zipIdx 0 18 = ba n := by
  obtain ⟨b, d, l, hd⟩ := n
  match d, hd with
  | [d0, d1, d2, d3, d4, d5, d6, d7, d8, d9, d10, d11, d12, d13, d14, d15], _ => simp [ba, bt]
theorem pput_full (b : Nat) (v : Value) (room : Nat) (ns : List Bk) (n : Bk) (w : World) (hP : BPool w b v room ns) (hl : ns.length = room) (hr : room ≤ 65536) :
    Calls Tryd.prog 30 #[.pointer (some ⟨b, 0, none⟩), .agg (ba n)] w fun e w' => e = .returned (.int .i64 7) ∧ w.grownBy w' none := by
  have HR := Lib.hid (proom_any b v room ns (w.alloc (.cells (ba n) 57)) (hP.grown (grown_alloc (grown_refl _ _) _)) (by omega) hr)
  have h0 : (room : Int) - (ns.length : Int) = 0 := by omega
  rw [h0] at HR
  clear hP hl h0
  go_enter Tryd.func30, Tryd.ntmps30
  go_wp2_with (go_at_call 33; ((with_reducible refine HR.out.mono ?_); rintro e w1 ⟨rfl, n, rfl⟩))
  go_ret
  exact ⟨rfl, grown_drewN (grown_alloc (grown_refl _ _) _) _⟩

set_option maxRecDepth 100000 in
set_option maxHeartbeats 1000000 in
theorem pput_ok (b : Nat) (v : Value) (room : Nat) (ns : List Bk) (n : Bk) (w : World) (hP : BPool w b v room ns) (hl : ns.length < room) (hr : room ≤ 65536) :
    Calls Tryd.prog 30 #[.pointer (some ⟨b, 0, none⟩), .agg (ba n)] w fun e w' => e = .returned (.int .i64 0) ∧ ∃ v', BPool w' b v' room (ns ++ [n]) ∧ Turn w w' b v v' := by
  obtain ⟨i0, hi, hz0, hz1, hz2⟩ := info_parts infoN
  have hg1 : w.grownBy (w.alloc (.cells (ba n) 57)) none := grown_alloc (grown_refl _ _) _
  have hP1 := hP.grown hg1
  have HR := Lib.hid (proom_any b v room ns (w.alloc (.cells (ba n) 57)) hP1 (by omega) hr)
  have h0 : ((room : Int) - (ns.length : Int) == 0) = false := by simp; omega
  have HG := Lib.hid hg1
  have HP := Lib.hid hP
  obtain ⟨ad, cap, rfl⟩ := hP.sl.form
  have HQ : Hid (ns.length + 1 ≤ 65536) := Lib.hid (by omega)
  have HN : Hid ((w.alloc (.cells (ba n) 57)).rangeAt w.heap.size 0 (bt n)) := Lib.hid (range_of (heap_alloc_new _ _))
  obtain ⟨q, hq⟩ : ∃ q, q = (room : Int) - (ns.length : Int) := ⟨_, rfl⟩
  rw [← hq] at HR h0
  obtain ⟨m, hm⟩ : ∃ m, m = ns.length := ⟨_, rfl⟩
  have HM := Lib.hid hm
  rw [← hm] at HP HQ
  obtain ⟨t, mm, HTT, hagg, hsize, hld⟩ := named
  have HLD := Lib.hid hld
  clear hP hl hr hq hP1 hm hg1 hld
  rw [← HM.out] 
  go_enter Tryd.func30, Tryd.ntmps30
  go_wp2_with (first
    | (go_at_call 33; ((with_reducible refine HR.out.mono ?_); rintro e w1 ⟨rfl, n1, hw1⟩; have HW := Lib.hid hw1; have hP1 := HP.out.grown (w' := w1) (by rw [hw1]; exact grown_drewN HG.out _); have hc1 := hP1.cell0; have hf1 := hP1.frozen 0; have HP1 := Lib.hid hP1; clear hw1 hP1))
    | fail)
  rw [HTT.out]
  have HL2 : Hid (∀ w', w1.grownBy w' none → (loadCellsFrom ⟨w.heap.size, 0, none⟩ 0 mm #[]).run Tryd.prog w' = .ok (ba n) w') := Lib.hid fun w' h => HLD.out _ n w' (range_grown HN.out (grown_trans (by rw [HW.out]; exact grown_drewN (grown_refl _ _) _) h) (by simp))
  have hl1 := HL2.out w1.drew (grown_drew (grown_refl _ _))
  have hsz := ba_size n
  have hfd := build_ba n
  have hgw : w1.grownBy (w1.alloc (.cells (ba n) 57)).drew none := grown_drew (grown_alloc (grown_refl _ _) _)
  have HSL : Hid (BSl (w1.alloc (.cells (ba n) 57)).drew (.slice ad m cap) ns) := Lib.hid (HP1.out.sl.grown hgw)
  have HSR : Hid (Src Tryd.prog 18 77 (.slice (some ⟨w1.heap.size, 0, none⟩) 1 1) 1 (bt n) (w1.alloc (.cells (ba n) 57)).drew) := Lib.hid (src_one' _ w1.heap.size (ba n) _ (bt n) 18 Tryd.underlying77 (show (w1.alloc (.cells (ba n) 57)).drew.heap[w1.heap.size]? = _ from heap_alloc_new w1 _) rfl (bt_len n) (bt_one n))
  have HGW := Lib.hid hgw
  have hc3 : (w1.alloc (.cells (ba n) 57)).cell? ⟨b, 0, none⟩ = some (.slice ad m cap) := (HP1.out.grown hgw).cell0
  clear hgw
  go_region_law (refine step_append_sl rfl (.tmp 14) (.tmp 16) 77 77 rfl 57 18 i0 (.agg (ba zb)) 80 Tryd.underlying77 hi hz0 hz1 hz2 zb_cells (.slice ad m cap) ns.length (flat bt ns) (by simp [Act.eval]) HSL.out 1 (bt n) (by simpa [Act.eval, Act.put] using HSR.out) (by have := HQ.out; have := HM.out; unfold maxLen; omega) (by have := HQ.out; have := HM.out; omega) ?_; intro v' w2 hsl hgr hnx; obtain ⟨⟨hc2, hf2⟩, hP2, hT2⟩ := HP1.out.put HGW.out hsl hgr hnx; obtain ⟨ad', cap', rfl⟩ := hsl.form)
  all_goals
    go_wp2_with fail
    go_ret
    refine ⟨rfl, .slice ad' (ns.length + 1) cap', ?_, ?_⟩
    · show Pool _ _ _ 18 b _ room (ns ++ [n]).length (flat bt (ns ++ [n]))
      rw [flat_append, flat_single, List.length_append]; exact hP2
    · rw [HW.out] at hT2
      exact (Turn.trans (Turn.of_grown b _ (grown_drewN HG.out n1)) hT2)

set_option maxHeartbeats 1000000 in
theorem pcut_first (b : Nat) (v : Value) (room : Nat) (ns : List Bk) (w : World) (hP : BPool w b v room ns) (hl : 0 < ns.length) (hr : ns.length ≤ 65536) :
    Calls Tryd.prog 46 #[.pointer (some ⟨b, 0, none⟩), .int .i64 0] w fun e w' => (∃ u, e = .returned u) ∧ ∃ v', BPool w' b v' room (ns.eraseIdx 0) ∧ Turn w w' b v v' := by
  have hsl := hP.sl
  have hf := hP.frozen 0
  have hc := hP.cell0
  rcases hsl with ⟨_, h, _⟩ | ⟨g, off, cap, cur, rfl, hb, h1, h2, h3, h4, h5⟩
  · omega
  have hsl := hP.sl
  obtain ⟨A, hA, _, hslA, hAg⟩ := tail_sl (P := Tryd.prog) hsl 1 (by omega) Tryd.underlying77 (bflat_one ns)
  rw [Nat.one_mul] at hA hslA
  have HSA := Lib.hid hslA
  have HP := Lib.hid hP
  have hcl : cap ≤ 9223372036854775807 := by unfold maxLen at h3; omega
  have HAG := Lib.hid hAg
  have HSL := Lib.hid hsl
  have he : (flat bt ns).drop 18 = flat bt (ns.eraseIdx 0) := by
    have := flat_erase bt_len ns 0 hl
    simpa using this
  have HE := Lib.hid he
  obtain ⟨q, hq⟩ : ∃ q, q = ns.length := ⟨_, rfl⟩
  have HQ := Lib.hid hq
  rw [← hq] at hc HSA HSL h2 hr hl
  clear hsl hP hslA hAg hb h1 h3 h4 h5 he hq
  go_enter Tryd.func46, Tryd.ntmps46
  go_wp2_with fail
  refine bodyPost_ret (results_none rfl _ _ _) rfl ?_
  obtain ⟨_, hP2, hT2⟩ := HP.out.put (wa := w) (w2 := w) ⟨rfl, rfl, rfl, Nat.le_refl _, fun _ _ _ => rfl⟩ HSA.out ⟨rfl, rfl, rfl, Nat.le_refl _, fun _ _ _ => rfl⟩ (.inl (by simp [Value.ownBlock, HAG.out]))
  rw [HE.out] at hP2
  refine ⟨⟨_, rfl⟩, .slice (some A) (q - 1) (cap - 1), ?_, hT2⟩
  have hlen : (ns.eraseIdx 0).length = q - 1 := by rw [List.length_eraseIdx_of_lt (by rw [← HQ.out]; exact hl), HQ.out]
  show Pool _ _ _ 18 b _ room (ns.eraseIdx 0).length _
  rw [hlen]; exact hP2

set_option maxRecDepth 100000 in
set_option maxHeartbeats 2000000 in
theorem pcut_mid (b : Nat) (v : Value) (room : Nat) (ns : List Bk) (k : Nat) (w : World) (hP : BPool w b v room ns) (hk0 : 0 < k) (hl : k < ns.length) (hr : ns.length ≤ 65536) :
    Calls Tryd.prog 46 #[.pointer (some ⟨b, 0, none⟩), .int .i64 (k : Int)] w fun e w' => (∃ u, e = .returned u) ∧ ∃ v', BPool w' b v' room (ns.eraseIdx k) ∧ Turn w w' b v v' := by
  obtain ⟨i0, hi, hz0, hz1, hz2⟩ := info_parts infoN
  have hf := hP.frozen 0
  have hc := hP.cell0
  rcases hP.sl with ⟨_, h, _⟩ | ⟨g, off, cap, cur, rfl, hb, h1, h2, h3, h4, h5⟩
  · omega
  have hsl : BSl w.drew _ ns := hP.sl.of_block (fun _ _ => rfl)
  obtain ⟨A, hA, hsrc, _, hAg⟩ := tail_sl (P := Tryd.prog) hsl (k + 1) (by omega) Tryd.underlying77 (bflat_one ns)
  have hhd := head_sl hsl k (by omega) k (Nat.le_refl _) (by omega)
  have hcl : cap ≤ 9223372036854775807 := by unfold maxLen at h3; omega
  have hkc : k ≤ cap := by omega
  have hkc1 : k + 1 ≤ cap := by omega
  have hkl1 : k + 1 ≤ ns.length := by omega
  have HP := Lib.hid hP
  have HS := Lib.hid hsrc
  have HH := Lib.hid hhd
  have HE := Lib.hid (flat_erase bt_len ns k hl)
  have HK : Hid (k + (ns.length - (k + 1)) ≤ 65536) := Lib.hid (by omega)
  have HN : Hid ((ns.eraseIdx k).length = k + (ns.length - (k + 1))) := Lib.hid (by rw [List.length_eraseIdx_of_lt hl]; omega)
  have hw : IntKind.i64.wrap ((k : Int) + 1) = ((k : Int) + 1) := by simp [IntKind.wrap, IntKind.bits, IntKind.signed]; omega
  have ht : ((k : Int) + 1).toNat = k + 1 := by omega
  have hk1 : 0 ≤ (k : Int) + 1 := by omega
  have hk2 : (k : Int) + 1 ≤ (ns.length : Int) := by omega
  clear hsl hP hsrc hhd hb h1 h2 h3 h4 h5 hAg
  go_enter Tryd.func46, Tryd.ntmps46
  go_wp2_with fail
  go_region_law (refine step_append_sl rfl (.tmp 21) (.tmp 28) 77 77 rfl 57 18 i0 (.agg (ba zb)) 80 Tryd.underlying77 hi hz0 hz1 hz2 zb_cells (.slice (some ⟨g, off, none⟩) k k) k ((flat bt ns).take (k * 18)) (by simp [Act.eval, Act.put]) HH.out _ _ HS.out (by have := HK.out; unfold maxLen; omega) (by have := HK.out; omega) ?_; intro v' w2 hsl hgr hnx; obtain ⟨⟨hc2, hf2⟩, hP2, hT2⟩ := (HP.out.drewN 1).put (wa := w.drewN 1) ⟨rfl, rfl, rfl, Nat.le_refl _, fun _ _ _ => rfl⟩ hsl hgr hnx; obtain ⟨ad', cap', rfl⟩ := hsl.form)
  all_goals
    go_end0
    rw [HE.out, ← HN.out] at hP2
    rw [← HN.out] at hT2
    exact ⟨⟨_, rfl⟩, _, by rw [← HN.out]; exact hP2, by rw [← HN.out]; exact hT2.drewN⟩
theorem pcut_any (b : Nat) (v : Value) (room : Nat) (ns : List Bk) (k : Nat) (w : World) (hP : BPool w b v room ns) (hl : k < ns.length) (hr : ns.length ≤ 65536) :
    Calls Tryd.prog 46 #[.pointer (some ⟨b, 0, none⟩), .int .i64 (k : Int)] w fun e w' => (∃ u, e = .returned u) ∧ ∃ v', BPool w' b v' room (ns.eraseIdx k) ∧ Turn w w' b v v' := by
  by_cases h0 : k = 0
  · subst h0; exact pcut_first b v room ns w hP hl hr
  · exact pcut_mid b v room ns k w hP (by omega) hl hr
end Go.Proofs.YtoifeinkaaclmaaDoor.bk
