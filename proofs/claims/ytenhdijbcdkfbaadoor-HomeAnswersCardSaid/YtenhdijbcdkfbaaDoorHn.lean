/-
  What New makes a home: contract. No condition but what it names.
-/
import Derived.Test.YtenhdijbcdkfbaaDoorHc
import Derived.Test.YtenhdijbcdkfbaaDoorHd
namespace Go.Proofs.YtenhdijbcdkfbaaDoor.hh
open Go Go.ChangeShapes Go.WideShapes Go.ChangeAt Go.RowKit
open Go.Proofs.YtenhdijbcdkfbaaDoor.tt (Nt Cfg fits net bare zd usd uses coreOf ok_ends MapAt mput mdel ik NPool NSl Turn flat na nt zn grown_alloc grown_refl grown_trans tyne lt_of)
open Go.Proofs.YtenhdijbcdkfbaaDoor.en (En gets back asked asks free ask_parts may_parts ea)
open Go.Proofs.YtenhdijbcdkfbaaDoor.mm (wi wo ones wo_lt)
set_option linter.unusedVariables false

theorem new_own {mb n B7 B8 PB s : Nat} {mv : Value} (l7 : s ≤ B7) (l8 : s ≤ B8) (lp : s ≤ PB) : ∀ i, (Ft.mk mb mv (.slice (some ⟨B7, 0, none⟩) n n) B8 PB (.slice none 0 0)).own i → mv.ownBlock = some i ∨ s ≤ i := fun i hi => by
  rcases hi with e | e | e | e | e
  · exact .inl e
  · simp [Value.ownBlock] at e; right; omega
  · right; rw [e]; exact l8
  · right; rw [e]; exact lp
  · simp [Value.ownBlock] at e
theorem row_up {w w' : World} {g : Nat} {o : Obj} (h : w.heap[g]? = some o) (hg : w.grownBy w' none) : w'.heap[g]? = some o := (hg.block g (Array.getElem?_eq_some_iff.1 h).1 (by simp)).trans h
theorem co_le {c : Cfg} (h : c.may) : 1 ≤ c.co ∧ c.co ≤ 16 := h.fits.1
theorem home_new {wc : World} {c : Cfg} {mb : Nat} {mv : Value} {bs : List (List Int)} {B7 B8 PB n : Nat} (hM : pp.Mem wc mb mv bs) (hm : c.may) (hl : (bs.length : Int) = c.bl) (hn : c.data = (n : Int)) (hn2 : n ≤ 256)
    (h7 : wc.heap[B7]? = some (.cells (rep2 free n n).toArray 47 (0, 0))) (h8 : wc.heap[B8]? = some (.map #[] 0)) (hp : wc.heap[PB]? = some (.cells #[.slice none 0 0, .int .i64 (c.co * (c.ba + 1))] 111 (0, 0)))
    (l7 : gs ≤ B7) (l8 : gs ≤ B8) (lp : gs ≤ PB) (lv : ∀ i, mv.ownBlock = some i → gs ≤ i) :
    HomeAt (wc.alloc (.cells #[.int .i64 c.co, .pointer (some ⟨mb, 0, none⟩), .slice (some ⟨B7, 0, none⟩) n n, .map (some B8), .pointer (some ⟨PB, 0, none⟩)] 86)) wc.heap.size c ⟨mb, mv, .slice (some ⟨B7, 0, none⟩) n n, B8, PB, .slice none 0 0⟩ (new c bs) := by
  have hg : wc.grownBy (wc.alloc (.cells #[.int .i64 c.co, .pointer (some ⟨mb, 0, none⟩), .slice (some ⟨B7, 0, none⟩) n n, .map (some B8), .pointer (some ⟨PB, 0, none⟩)] 86)) none := grown_alloc (grown_refl _ _) _
  have hr := (room_le hm).2.2
  have hdn : c.data.toNat = n := by omega
  have hen : (new c bs).en = List.replicate n free := by show List.replicate c.data.toNat free = _; rw [hdn]
  have hu : hh.und (new c bs) = fun _ => none := by
    funext k
    unfold hh.und
    split
    · have : jbOf (new c bs) k.toNat = none := by
        unfold jbOf new
        rw [List.getD_eq_getElem?_getD, List.getElem?_replicate]
        split <;> rfl
      rw [this]; rfl
    · rfl
  have h7' := row_up h7 hg
  have h8' := row_up h8 hg
  have hp' := row_up hp hg
  have hro : (room c : Int) = c.co * (c.ba + 1) := hr
  refine ⟨heap_alloc_new _ _, hM.kept hg, ?_, ?_, ⟨?_, Or.inl ⟨rfl, rfl, rfl⟩, by simp [Value.ownBlock]⟩, new_inv c bs hm (by omega) (fun r h => hM.len r h), fun b j e => ?_, Nat.zero_le _, fun i hi => ?_⟩
  · rw [hen, List.length_replicate]
    refine .inr ⟨B7, 0, n, _, rfl, h7', by rw [tt.flat_len et_len, List.length_replicate], Nat.le_refl _, by unfold maxLen; omega, by rw [List.size_toArray, rep2_len _ _ _ (Nat.le_refl _)]; omega, fun k x hk => ?_⟩
    rw [Nat.zero_add, List.getElem?_toArray, rep2_full]; exact hk
  · rw [hu]
    obtain ⟨es, ck, e1, e2, e3⟩ := MapAt.new wc
    rw [heap_alloc_new] at e1
    cases e1
    exact ⟨_, _, h8', e2, e3⟩
  · rw [hro]; exact hp'
  · have : (new c bs).jb = List.replicate c.data.toNat none := rfl
    rw [this, List.getElem?_replicate] at e
    split at e <;> cases e
  · rcases hi with e | e | e | e | e
    · exact lv i e
    · simp [Value.ownBlock] at e; omega
    · show gs ≤ i; rw [e]; exact l8
    · rw [e]; exact lp
    · simp [Value.ownBlock] at e
set_option maxRecDepth 1000000 in
set_option maxHeartbeats 8000000 in
theorem new_yes (c : Cfg) (mb : Nat) (mv : Value) (bs : List (List Int)) (w : World) (hM : pp.Mem w mb mv bs) (hT : tt.Tab w) (hm : c.may) (hl : (bs.length : Int) = c.bl) (hgs : gs ≤ w.heap.size) (hv : ∀ i, mv.ownBlock = some i → gs ≤ i) : Calls Tryd.prog 14 #[.agg c.cells, .pointer (some ⟨mb, 0, none⟩)] w fun e w' => ∃ h F, e = .returned (.tuple #[.pointer (some ⟨h, 0, none⟩), .int .i64 0]) ∧
    HomeAt w' h c F (new c bs) ∧ w.grownBy w' none ∧ F.mb = mb ∧ F.mv = mv ∧ w.heap.size ≤ h ∧ ∀ i, F.own i → mv.ownBlock = some i ∨ w.heap.size ≤ i := by
  unfold Cfg.cells at *
  obtain ⟨wb, hwb⟩ : ∃ wb, w.alloc (.cells #[.int .i64 c.co, .int .i64 c.se, .int .i64 c.wa, .int .i64 c.bl, .int .i64 c.lo, .int .i64 c.ba, .int .i64 c.ne, .int .i64 c.tr] 40) = wb := ⟨_, rfl⟩
  have hgb : w.grownBy wb none := by rw [← hwb]; exact grown_alloc (grown_refl _ _) _
  have HG := qh hgb
  have HCA := qh (tt.cfg_at w c)
  unfold Cfg.cells at HCA
  rw [hwb] at HCA
  have HK : Hid (∀ w', wb.grownBy w' none → _) := qh fun w' h' => (HCA.out.grown h').limbs
  have HMA : Hid (∀ w', wb.grownBy w' none → Calls Tryd.prog 21 #[.agg #[.int .i64 c.co, .int .i64 c.se, .int .i64 c.wa, .int .i64 c.bl, .int .i64 c.lo, .int .i64 c.ba, .int .i64 c.ne, .int .i64 c.tr]] w' fun e w'' => e = .returned (.int .i64 0) ∧ w'.grownBy w'' none) := qh fun w' h' => by
    have := tt.may_any c w' (hT.grown (grown_trans hgb h'))
    rw [tt.yes_of hm] at this; exact this
  have HMB : Hid (∀ w', wb.grownBy w' none → Calls Tryd.prog 31 #[.pointer (some ⟨mb, 0, none⟩)] w' fun e w'' => e = .returned (.int .i64 c.bl) ∧ w' = w'') := qh fun w' h' => by
    have := pp.blocks_any mb mv bs w' (hM.kept (grown_trans hgb h'))
    rw [hl] at this; exact this
  obtain ⟨n, hn⟩ : ∃ n : Nat, c.data = (n : Int) := ⟨c.data.toNat, by have := hm.2; omega⟩
  have hn1 : 1 ≤ n := by have := hm.2; omega
  have hn2 : n ≤ 256 := by have := data_le hm; have := hm.fits.bl; omega
  have HD : Hid (∀ w', wb.grownBy w' none → Calls Tryd.prog 26 #[.agg #[.int .i64 c.co, .int .i64 c.se, .int .i64 c.wa, .int .i64 c.bl, .int .i64 c.lo, .int .i64 c.ba, .int .i64 c.ne, .int .i64 c.tr]] w' fun e w'' => e = .returned (.int .i64 (n : Int)) ∧ w'.grownBy w'' none) := qh fun w' h' => by
    have := tt.data_yes c w' (hT.grown (grown_trans hgb h')) hm
    rw [hn] at this; exact this
  have HF : Hid (∀ w : World, _) := qh fun w : World => en.free_any w
  have HRP : Hid (∀ (w' : World) (g : Nat), w'.heap[g]? = some (.cells #[.int .i64 (-1), .int .u32 0] 47 (0, 0)) → _) := qh fun w' g hg => repeat_any free n hn1 hn2 w' g hg
  have h1 := co_le hm
  obtain ⟨h2, h3⟩ := h1
  obtain ⟨h4, h5⟩ := tt.hb_bounds (hm.1 5 (by omega))
  have h4 : 1 ≤ c.ba := h4
  have h5 : c.ba ≤ 4 := h5
  obtain ⟨r1, r2, r3⟩ := room_le hm
  have r4 : c.co * (c.ba + 1) ≤ 65536 := by unfold roomH at r3; omega
  have r5 : 1 ≤ c.co * (c.ba + 1) := by unfold roomH at r3; omega
  have HPN : Hid (∀ w : World, Calls Tryd.prog 32 #[.int .i64 (c.co * (c.ba + 1))] w fun e w' => e = .returned (.tuple #[.pointer (some ⟨w.heap.size, 0, none⟩), .int .i64 0]) ∧ w' = w.alloc (.cells #[.slice none 0 0, .int .i64 (c.co * (c.ba + 1))] 111)) := qh fun w => by
    have := tt.pnew_ok (room c) w r1 r2
    rw [show (room c : Int) = c.co * (c.ba + 1) from r3] at this; exact this
  have hmm := @run_makeMap Tryd.prog
  have HMK : Hid (∀ w', w.grownBy w' none → _) := qh fun w' h' => hM.kept h'
  have HMM := qh hm
  have HLL := qh hl
  have HNN := qh hn
  have HN2 := qh hn2
  have HGS := qh hgs
  have HVV := qh hv
  clear hM hT hm hl hgb hn hn1 hn2 hgs hv r1 r2 r3
  go_enter Tryd.func14, Tryd.ntmps14
  go_wp2_with fail
  refine wp_region_held_drew (S := fun w' => wb.grownBy w' none) (by kernel_rfl) (tt.grown_drew (grown_refl _ _)) (fun hHeld => ?_)
  generalize wb.drew = wd at hHeld ⊢
  refine hh.tl 0 ⟨some 10, Op.load 40 (.tmp 2), _, _, _, _⟩ ?v18 rfl ?hy18 ?_
  case hy18 => ((intro w0 hSw; obtain ⟨hs0, hs1, hs2, hs3, hs4, hs5, hs6, hs7⟩ := HK.out w0 hSw; go_simp); try (with_reducible rfl))
  try simp only [lay]
  refine rd1 (i := 1) (o := ⟨some 11, Op.call { callee := Callee.value (.func 21), args := #[(.tmp 10)], argTypes := #[40] }, _, _, _, _⟩) rfl (fun K hK => ?_)
  go_simp
  (with_reducible refine (HMA.out _ hHeld).mono ?_); rintro e wA ⟨rfl, hgA⟩; have HGA := qh (grown_trans hHeld hgA)
  refine hK.out _ _ HGA.out (fun hHeld => ?_)
  clear hK K
  try simp only [lay]
  refine hh.tl 2 ⟨some 12, Op.binOp BinOp.neq 36 (.tmp 11) (.const (Value.int IntKind.i64 0)) _, _, _, _, _⟩ ?v19 rfl ?hy19 ?_
  case hy19 => ((intro w0 hSw; go_simp); try (with_reducible rfl))
  try simp only [lay]
  refine hh.tl 3 ⟨some 13, Op.move (.tmp 12), _, _, _, _⟩ ?v20 rfl ?hy20 ?_
  case hy20 => ((intro w0 hSw; go_simp); try (with_reducible rfl))
  try simp only [lay]
  refine hh.tl 4 ⟨some 14, Op.move (.tmp 1), _, _, _, _⟩ ?v21 rfl ?hy21 ?_
  case hy21 => ((intro w0 hSw; go_simp); try (with_reducible rfl))
  try simp only [lay]
  refine hh.tl 6 ⟨some 16, Op.fieldAddr 40 (.tmp 2) 3, _, _, _, _⟩ ?v22 rfl ?hy22 ?_
  case hy22 => ((intro w0 hSw; obtain ⟨hs0, hs1, hs2, hs3, hs4, hs5, hs6, hs7⟩ := HK.out w0 hSw; go_simp); try (with_reducible rfl))
  try simp only [lay]
  refine hh.tl 7 ⟨some 17, Op.load 3 (.tmp 16), _, _, _, _⟩ ?v23 rfl ?hy23 ?_
  case hy23 => ((intro w0 hSw; obtain ⟨hs0, hs1, hs2, hs3, hs4, hs5, hs6, hs7⟩ := HK.out w0 hSw; go_simp); try (with_reducible rfl))
  try simp only [lay]
  refine rd1 (i := 5) (o := ⟨some 15, Op.call { callee := Callee.value (.func 31), args := #[(.tmp 14)], argTypes := #[55] }, _, _, _, _⟩) rfl (fun K hK => ?_)
  go_simp
  (with_reducible refine (HMB.out _ hHeld).mono ?_); rintro e wA2 ⟨rfl, rfl⟩
  refine hK.out _ _ HGA.out (fun hHeld => ?_)
  clear hK K
  try simp only [lay]
  refine hh.tl 8 ⟨some 18, Op.binOp BinOp.neq 3 (.tmp 15) (.tmp 17) _, _, _, _, _⟩ ?v24 rfl ?hy24 ?_
  case hy24 => ((intro w0 hSw; go_simp); try (with_reducible rfl))
  try simp only [lay]
  refine hh.tl 9 ⟨some 19, Op.pick (.tmp 13) (.const (Value.bool true)) (.tmp 18), _, _, _, _⟩ ?v25 rfl ?hy25 ?_
  case hy25 => ((intro w0 hSw; go_simp); try (with_reducible rfl))
  try simp only [lay]
  refine wpAnyH_done (by kernel_rfl) ?_ _
  obtain ⟨d0, d1, d2, d3, d4, d5, d6, d7⟩ := HK.out _ HGA.out
  go_wp2_with (go_at_call 32; ((with_reducible refine (HPN.out _).mono ?_); rintro e wP ⟨rfl, hwP⟩; have HWP := qh hwP; clear hwP))
  clear d0 d1 d2 d3 d4 d5 d6 d7
  obtain ⟨PB, hPB⟩ : ∃ B, wA.heap.size = B := ⟨_, rfl⟩
  have hfp : wP.heap[PB]? = some (.cells #[.slice none 0 0, .int .i64 (c.co * (c.ba + 1))] 111 (0, 0)) := by rw [HWP.out, ← hPB]; exact heap_alloc_new _ _
  have hgP : wb.grownBy wP none := by rw [HWP.out]; exact grown_alloc HGA.out _
  have HLP : Hid (wb.heap.size ≤ PB) := qh (by rw [← hPB]; exact HGA.out.size)
  rw [hPB]
  clear hPB HWP
  refine wp_region_held_drew (S := fun w' => wb.grownBy w' none) (by kernel_rfl) (tt.grown_drew hgP) (fun hHeld => ?_)
  have hfd : wP.drew.heap[PB]? = some (.cells #[.slice none 0 0, .int .i64 (c.co * (c.ba + 1))] 111 (0, 0)) := hfp
  generalize wP.drew = wd6 at hHeld hfd ⊢
  have HBP := qh hfd
  clear hfd hfp hgP
  refine hh.tl 0 ⟨some 30, Op.fieldAddr 40 (.tmp 2) 0, _, _, _, _⟩ ?v26 rfl ?hy26 ?_
  case hy26 => ((intro w0 hSw; obtain ⟨hs0, hs1, hs2, hs3, hs4, hs5, hs6, hs7⟩ := HK.out w0 hSw; go_simp); try (with_reducible rfl))
  try simp only [lay]
  refine hh.tl 1 ⟨some 31, Op.load 3 (.tmp 30), _, _, _, _⟩ ?v27 rfl ?hy27 ?_
  case hy27 => ((intro w0 hSw; obtain ⟨hs0, hs1, hs2, hs3, hs4, hs5, hs6, hs7⟩ := HK.out w0 hSw; go_simp); try (with_reducible rfl))
  try simp only [lay]
  refine hh.tl 2 ⟨some 32, Op.move (.tmp 1), _, _, _, _⟩ ?v28 rfl ?hy28 ?_
  case hy28 => ((intro w0 hSw; obtain ⟨hs0, hs1, hs2, hs3, hs4, hs5, hs6, hs7⟩ := HK.out w0 hSw; go_simp); try (with_reducible rfl))
  try simp only [lay]
  refine hh.tl 5 ⟨some 35, Op.load 40 (.tmp 2), _, _, _, _⟩ ?v29 rfl ?hy29 ?_
  case hy29 => ((intro w0 hSw; obtain ⟨hs0, hs1, hs2, hs3, hs4, hs5, hs6, hs7⟩ := HK.out w0 hSw; go_simp); try (with_reducible rfl))
  try simp only [lay]
  refine hh.tl 9 ⟨some 39, Op.move (.tmp 6), _, _, _, _⟩ ?v30 rfl ?hy30 ?_
  case hy30 => ((intro w0 hSw; obtain ⟨hs0, hs1, hs2, hs3, hs4, hs5, hs6, hs7⟩ := HK.out w0 hSw; go_simp); try (with_reducible rfl))
  try simp only [lay]
  refine hh.tl 12 ⟨some 42, Op.move (.tmp 7), _, _, _, _⟩ ?v31 rfl ?hy31 ?_
  case hy31 => ((intro w0 hSw; obtain ⟨hs0, hs1, hs2, hs3, hs4, hs5, hs6, hs7⟩ := HK.out w0 hSw; go_simp); try (with_reducible rfl))
  try simp only [lay]
  refine wpAnyH_ready (rs := [3, 8]) (by kernel_rfl) (by simp) ?_
  refine (AllReadyH.cons (o := ⟨some 33, Op.call { callee := Callee.value (.func 34), args := #[], argTypes := #[] }, _, _, _, _⟩) rfl (fun K hK => ?_) (AllReadyH.cons (o := ⟨some 38, Op.makeMap 83 none, _, _, _, _⟩) rfl (fun K hK => ?_) AllReadyH.nil))
  · skip
    go_simp
    (with_reducible refine (HF.out _).mono ?_); rintro e w1 ⟨rfl, hgw1⟩
    go_wp2_with fail
    replace HBP := qh (row_up HBP.out hgw1)
    have hgT := grown_trans hHeld hgw1
    refine hK.out _ _ hgT (fun hHeld => ?_)
    clear hK K hgT hgw1
    try simp only [lay]
    refine wpAnyH_ready (rs := [4, 6, 8]) (by kernel_rfl) (by simp) ?_
    refine (AllReadyH.cons (o := ⟨some 34, Op.buildSlice 82 1 #[(0, (.tmp 33))], _, _, _, _⟩) rfl (fun K hK => ?_) (AllReadyH.cons (o := ⟨some 36, Op.call { callee := Callee.value (.func 26), args := #[(.tmp 35)], argTypes := #[40] }, _, _, _, _⟩) rfl (fun K hK => ?_) (AllReadyH.cons (o := ⟨some 38, Op.makeMap 83 none, _, _, _, _⟩) rfl (fun K hK => ?_) AllReadyH.nil)))
    · skip
      go_simp
      obtain ⟨w2, hnw2⟩ : ∃ w', w1.alloc (.cells #[.int .i64 (-1), .int .u32 0] 47) = w' := ⟨_, rfl⟩
      have hgw2 : w1.grownBy w2 none := by rw [← hnw2]; exact grown_alloc (grown_refl _ _) _
      obtain ⟨B4, hm4⟩ : ∃ B, w1.heap.size = B := ⟨_, rfl⟩
      have hB4 : w2.heap[B4]? = some (.cells #[.int .i64 (-1), .int .u32 0] 47 (0, 0)) := by rw [← hnw2, ← hm4]; exact heap_alloc_new _ _
      have HL4 : Hid (wb.heap.size ≤ B4) := qh (by rw [← hm4]; exact hHeld.size)
      rw [hnw2, hm4]
      clear hnw2 hm4
      have HB4 := qh hB4
      clear hB4
      replace HBP := qh (row_up HBP.out hgw2)
      have hgT := grown_trans hHeld hgw2
      refine hK.out _ _ hgT (fun hHeld => ?_)
      clear hK K hgT hgw2
      try simp only [lay]
      refine wpAnyH_ready (rs := [6, 8]) (by kernel_rfl) (by simp) ?_
      refine (AllReadyH.cons (o := ⟨some 36, Op.call { callee := Callee.value (.func 26), args := #[(.tmp 35)], argTypes := #[40] }, _, _, _, _⟩) rfl (fun K hK => ?_) (AllReadyH.cons (o := ⟨some 38, Op.makeMap 83 none, _, _, _, _⟩) rfl (fun K hK => ?_) AllReadyH.nil))
      · skip
        go_simp
        (with_reducible refine (HD.out _ hHeld).mono ?_); rintro e w3 ⟨rfl, hgw3⟩
        go_wp2_with fail
        replace HBP := qh (row_up HBP.out hgw3)
        replace HB4 := qh (row_up HB4.out hgw3)
        have hgT := grown_trans hHeld hgw3
        refine hK.out _ _ hgT (fun hHeld => ?_)
        clear hK K hgT hgw3
        try simp only [lay]
        refine wpAnyH_ready (rs := [7, 8]) (by kernel_rfl) (by simp) ?_
        refine (AllReadyH.cons (o := ⟨some 37, Op.call { callee := Callee.value (.func 33), args := #[(.tmp 34), (.tmp 36)], argTypes := #[82, 3] }, _, _, _, _⟩) rfl (fun K hK => ?_) (AllReadyH.cons (o := ⟨some 38, Op.makeMap 83 none, _, _, _, _⟩) rfl (fun K hK => ?_) AllReadyH.nil))
        · skip
          go_simp
          (with_reducible refine (HRP.out _ _ HB4.out).mono ?_); rintro e w4 ⟨rfl, hB7, hgw4⟩
          obtain ⟨B7, hn7⟩ : ∃ B, w3.heap.size = B := ⟨_, rfl⟩
          rw [hn7] at hB7 ⊢
          have HL7 : Hid (wb.heap.size ≤ B7) := qh (by rw [← hn7]; exact hHeld.size)
          clear hn7
          have HB7 := qh hB7
          clear hB7
          go_wp2_with fail
          replace HBP := qh (row_up HBP.out hgw4)
          replace HB4 := qh (row_up HB4.out hgw4)
          have hgT := grown_trans hHeld hgw4
          refine hK.out _ _ hgT (fun hHeld => ?_)
          clear hK K hgT hgw4
          try simp only [lay]
          refine wpAnyH_ready (rs := [8]) (by kernel_rfl) (by simp) ?_
          refine (AllReadyH.cons (o := ⟨some 38, Op.makeMap 83 none, _, _, _, _⟩) rfl (fun K hK => ?_) AllReadyH.nil)
          go_simp
          try rw [hmm]
          try go_simp
          obtain ⟨w5, hnw5⟩ : ∃ w', w4.alloc (.map #[] 0) = w' := ⟨_, rfl⟩
          have hgw5 : w4.grownBy w5 none := by rw [← hnw5]; exact grown_alloc (grown_refl _ _) _
          obtain ⟨B8, hm8⟩ : ∃ B, w4.heap.size = B := ⟨_, rfl⟩
          have hB8 : w5.heap[B8]? = some (.map #[] 0) := by rw [← hnw5, ← hm8]; exact heap_alloc_new _ _
          have HL8 : Hid (wb.heap.size ≤ B8) := qh (by rw [← hm8]; exact hHeld.size)
          rw [hnw5, hm8]
          clear hnw5 hm8
          have HB8 := qh hB8
          clear hB8
          replace HBP := qh (row_up HBP.out hgw5)
          replace HB4 := qh (row_up HB4.out hgw5)
          replace HB7 := qh (row_up HB7.out hgw5)
          have hgT := grown_trans hHeld hgw5
          refine hK.out _ _ hgT (fun hHeld => ?_)
          clear hK K hgT hgw5
          try simp only [lay]
          refine hh.tl 10 ⟨some 40, Op.build 86 #[(0, (.tmp 31)), (1, (.tmp 32)), (2, (.tmp 37)), (3, (.tmp 38)), (4, (.tmp 39))], _, _, _, _⟩ ?v32 rfl ?hy32 ?_
          case hy32 => ((intro w0 hSw; go_simp); try (with_reducible rfl))
          try simp only [lay]
          refine rd1 (i := 11) (o := ⟨some 41, Op.box 86 (.tmp 40), _, _, _, _⟩) rfl (fun K hK => ?_)
          go_simp
          refine hK.out _ _ (grown_alloc hHeld _) (fun hHeld2 => ?_)
          clear hK K
          try simp only [lay]
          refine wpAnyH_take (i := 13) (oi := ⟨some 4, Op.assign (.tmp 41), _, _, _, _⟩) (v := ?v33) rfl (by kernel_rfl) (by kernel_rfl) (by kernel_rfl) (fun _ _ _ h => h) (Or.inl ⟨by rfl, ?hy33⟩) hHeld2 ?rest33
          case hy33 => ((intro w0 hSw; go_simp); try (with_reducible rfl))
          try simp only [lay]
          refine wpAnyH_take (i := 14) (oi := ⟨some 5, Op.assign (.tmp 42), _, _, _, _⟩) (v := ?v34) rfl (by kernel_rfl) (by kernel_rfl) (by kernel_rfl) (fun _ _ _ h => h) (Or.inl ⟨by rfl, ?hy34⟩) hHeld2 ?rest34
          case hy34 => ((intro w0 hSw; go_simp); try (with_reducible rfl))
          try simp only [lay]
          refine wpAnyH_done (by kernel_rfl) ?_ _
          go_wp2_with fail
          go_ret2
          have hgw := grown_trans HG.out hHeld
          exact ⟨_, _, rfl, home_new (HMK.out _ hgw) HMM.out HLL.out HNN.out HN2.out HB7.out HB8.out HBP.out (Nat.le_trans HGS.out (Nat.le_trans HG.out.size HL7.out)) (Nat.le_trans HGS.out (Nat.le_trans HG.out.size HL8.out)) (Nat.le_trans HGS.out (Nat.le_trans HG.out.size HLP.out)) HVV.out, grown_trans HG.out hHeld2, rfl, rfl, hgw.size, new_own (Nat.le_trans HG.out.size HL7.out) (Nat.le_trans HG.out.size HL8.out) (Nat.le_trans HG.out.size HLP.out)⟩
        · skip
          go_simp
          try rw [hmm]
          try go_simp
          obtain ⟨w6, hnw6⟩ : ∃ w', w3.alloc (.map #[] 0) = w' := ⟨_, rfl⟩
          have hgw6 : w3.grownBy w6 none := by rw [← hnw6]; exact grown_alloc (grown_refl _ _) _
          obtain ⟨B8, hm8⟩ : ∃ B, w3.heap.size = B := ⟨_, rfl⟩
          have hB8 : w6.heap[B8]? = some (.map #[] 0) := by rw [← hnw6, ← hm8]; exact heap_alloc_new _ _
          have HL8 : Hid (wb.heap.size ≤ B8) := qh (by rw [← hm8]; exact hHeld.size)
          rw [hnw6, hm8]
          clear hnw6 hm8
          have HB8 := qh hB8
          clear hB8
          replace HBP := qh (row_up HBP.out hgw6)
          replace HB4 := qh (row_up HB4.out hgw6)
          have hgT := grown_trans hHeld hgw6
          refine hK.out _ _ hgT (fun hHeld => ?_)
          clear hK K hgT hgw6
          try simp only [lay]
          refine wpAnyH_ready (rs := [7]) (by kernel_rfl) (by simp) ?_
          refine (AllReadyH.cons (o := ⟨some 37, Op.call { callee := Callee.value (.func 33), args := #[(.tmp 34), (.tmp 36)], argTypes := #[82, 3] }, _, _, _, _⟩) rfl (fun K hK => ?_) AllReadyH.nil)
          go_simp
          (with_reducible refine (HRP.out _ _ HB4.out).mono ?_); rintro e w7 ⟨rfl, hB7, hgw7⟩
          obtain ⟨B7, hn7⟩ : ∃ B, w6.heap.size = B := ⟨_, rfl⟩
          rw [hn7] at hB7 ⊢
          have HL7 : Hid (wb.heap.size ≤ B7) := qh (by rw [← hn7]; exact hHeld.size)
          clear hn7
          have HB7 := qh hB7
          clear hB7
          go_wp2_with fail
          replace HBP := qh (row_up HBP.out hgw7)
          replace HB4 := qh (row_up HB4.out hgw7)
          replace HB8 := qh (row_up HB8.out hgw7)
          have hgT := grown_trans hHeld hgw7
          refine hK.out _ _ hgT (fun hHeld => ?_)
          clear hK K hgT hgw7
          try simp only [lay]
          refine hh.tl 10 ⟨some 40, Op.build 86 #[(0, (.tmp 31)), (1, (.tmp 32)), (2, (.tmp 37)), (3, (.tmp 38)), (4, (.tmp 39))], _, _, _, _⟩ ?v35 rfl ?hy35 ?_
          case hy35 => ((intro w0 hSw; go_simp); try (with_reducible rfl))
          try simp only [lay]
          refine rd1 (i := 11) (o := ⟨some 41, Op.box 86 (.tmp 40), _, _, _, _⟩) rfl (fun K hK => ?_)
          go_simp
          refine hK.out _ _ (grown_alloc hHeld _) (fun hHeld2 => ?_)
          clear hK K
          try simp only [lay]
          refine wpAnyH_take (i := 13) (oi := ⟨some 4, Op.assign (.tmp 41), _, _, _, _⟩) (v := ?v36) rfl (by kernel_rfl) (by kernel_rfl) (by kernel_rfl) (fun _ _ _ h => h) (Or.inl ⟨by rfl, ?hy36⟩) hHeld2 ?rest36
          case hy36 => ((intro w0 hSw; go_simp); try (with_reducible rfl))
          try simp only [lay]
          refine wpAnyH_take (i := 14) (oi := ⟨some 5, Op.assign (.tmp 42), _, _, _, _⟩) (v := ?v37) rfl (by kernel_rfl) (by kernel_rfl) (by kernel_rfl) (fun _ _ _ h => h) (Or.inl ⟨by rfl, ?hy37⟩) hHeld2 ?rest37
          case hy37 => ((intro w0 hSw; go_simp); try (with_reducible rfl))
          try simp only [lay]
          refine wpAnyH_done (by kernel_rfl) ?_ _
          go_wp2_with fail
          go_ret2
          have hgw := grown_trans HG.out hHeld
          exact ⟨_, _, rfl, home_new (HMK.out _ hgw) HMM.out HLL.out HNN.out HN2.out HB7.out HB8.out HBP.out (Nat.le_trans HGS.out (Nat.le_trans HG.out.size HL7.out)) (Nat.le_trans HGS.out (Nat.le_trans HG.out.size HL8.out)) (Nat.le_trans HGS.out (Nat.le_trans HG.out.size HLP.out)) HVV.out, grown_trans HG.out hHeld2, rfl, rfl, hgw.size, new_own (Nat.le_trans HG.out.size HL7.out) (Nat.le_trans HG.out.size HL8.out) (Nat.le_trans HG.out.size HLP.out)⟩
      · skip
        go_simp
        try rw [hmm]
        try go_simp
        obtain ⟨w8, hnw8⟩ : ∃ w', w2.alloc (.map #[] 0) = w' := ⟨_, rfl⟩
        have hgw8 : w2.grownBy w8 none := by rw [← hnw8]; exact grown_alloc (grown_refl _ _) _
        obtain ⟨B8, hm8⟩ : ∃ B, w2.heap.size = B := ⟨_, rfl⟩
        have hB8 : w8.heap[B8]? = some (.map #[] 0) := by rw [← hnw8, ← hm8]; exact heap_alloc_new _ _
        have HL8 : Hid (wb.heap.size ≤ B8) := qh (by rw [← hm8]; exact hHeld.size)
        rw [hnw8, hm8]
        clear hnw8 hm8
        have HB8 := qh hB8
        clear hB8
        replace HBP := qh (row_up HBP.out hgw8)
        replace HB4 := qh (row_up HB4.out hgw8)
        have hgT := grown_trans hHeld hgw8
        refine hK.out _ _ hgT (fun hHeld => ?_)
        clear hK K hgT hgw8
        try simp only [lay]
        refine wpAnyH_ready (rs := [6]) (by kernel_rfl) (by simp) ?_
        refine (AllReadyH.cons (o := ⟨some 36, Op.call { callee := Callee.value (.func 26), args := #[(.tmp 35)], argTypes := #[40] }, _, _, _, _⟩) rfl (fun K hK => ?_) AllReadyH.nil)
        go_simp
        (with_reducible refine (HD.out _ hHeld).mono ?_); rintro e w9 ⟨rfl, hgw9⟩
        go_wp2_with fail
        replace HBP := qh (row_up HBP.out hgw9)
        replace HB4 := qh (row_up HB4.out hgw9)
        replace HB8 := qh (row_up HB8.out hgw9)
        have hgT := grown_trans hHeld hgw9
        refine hK.out _ _ hgT (fun hHeld => ?_)
        clear hK K hgT hgw9
        try simp only [lay]
        refine wpAnyH_ready (rs := [7]) (by kernel_rfl) (by simp) ?_
        refine (AllReadyH.cons (o := ⟨some 37, Op.call { callee := Callee.value (.func 33), args := #[(.tmp 34), (.tmp 36)], argTypes := #[82, 3] }, _, _, _, _⟩) rfl (fun K hK => ?_) AllReadyH.nil)
        go_simp
        (with_reducible refine (HRP.out _ _ HB4.out).mono ?_); rintro e w10 ⟨rfl, hB7, hgw10⟩
        obtain ⟨B7, hn7⟩ : ∃ B, w9.heap.size = B := ⟨_, rfl⟩
        rw [hn7] at hB7 ⊢
        have HL7 : Hid (wb.heap.size ≤ B7) := qh (by rw [← hn7]; exact hHeld.size)
        clear hn7
        have HB7 := qh hB7
        clear hB7
        go_wp2_with fail
        replace HBP := qh (row_up HBP.out hgw10)
        replace HB4 := qh (row_up HB4.out hgw10)
        replace HB8 := qh (row_up HB8.out hgw10)
        have hgT := grown_trans hHeld hgw10
        refine hK.out _ _ hgT (fun hHeld => ?_)
        clear hK K hgT hgw10
        try simp only [lay]
        refine hh.tl 10 ⟨some 40, Op.build 86 #[(0, (.tmp 31)), (1, (.tmp 32)), (2, (.tmp 37)), (3, (.tmp 38)), (4, (.tmp 39))], _, _, _, _⟩ ?v38 rfl ?hy38 ?_
        case hy38 => ((intro w0 hSw; go_simp); try (with_reducible rfl))
        try simp only [lay]
        refine rd1 (i := 11) (o := ⟨some 41, Op.box 86 (.tmp 40), _, _, _, _⟩) rfl (fun K hK => ?_)
        go_simp
        refine hK.out _ _ (grown_alloc hHeld _) (fun hHeld2 => ?_)
        clear hK K
        try simp only [lay]
        refine wpAnyH_take (i := 13) (oi := ⟨some 4, Op.assign (.tmp 41), _, _, _, _⟩) (v := ?v39) rfl (by kernel_rfl) (by kernel_rfl) (by kernel_rfl) (fun _ _ _ h => h) (Or.inl ⟨by rfl, ?hy39⟩) hHeld2 ?rest39
        case hy39 => ((intro w0 hSw; go_simp); try (with_reducible rfl))
        try simp only [lay]
        refine wpAnyH_take (i := 14) (oi := ⟨some 5, Op.assign (.tmp 42), _, _, _, _⟩) (v := ?v40) rfl (by kernel_rfl) (by kernel_rfl) (by kernel_rfl) (fun _ _ _ h => h) (Or.inl ⟨by rfl, ?hy40⟩) hHeld2 ?rest40
        case hy40 => ((intro w0 hSw; go_simp); try (with_reducible rfl))
        try simp only [lay]
        refine wpAnyH_done (by kernel_rfl) ?_ _
        go_wp2_with fail
        go_ret2
        have hgw := grown_trans HG.out hHeld
        exact ⟨_, _, rfl, home_new (HMK.out _ hgw) HMM.out HLL.out HNN.out HN2.out HB7.out HB8.out HBP.out (Nat.le_trans HGS.out (Nat.le_trans HG.out.size HL7.out)) (Nat.le_trans HGS.out (Nat.le_trans HG.out.size HL8.out)) (Nat.le_trans HGS.out (Nat.le_trans HG.out.size HLP.out)) HVV.out, grown_trans HG.out hHeld2, rfl, rfl, hgw.size, new_own (Nat.le_trans HG.out.size HL7.out) (Nat.le_trans HG.out.size HL8.out) (Nat.le_trans HG.out.size HLP.out)⟩
    · skip
      go_simp
      (with_reducible refine (HD.out _ hHeld).mono ?_); rintro e w11 ⟨rfl, hgw11⟩
      go_wp2_with fail
      replace HBP := qh (row_up HBP.out hgw11)
      have hgT := grown_trans hHeld hgw11
      refine hK.out _ _ hgT (fun hHeld => ?_)
      clear hK K hgT hgw11
      try simp only [lay]
      refine wpAnyH_ready (rs := [4, 8]) (by kernel_rfl) (by simp) ?_
      refine (AllReadyH.cons (o := ⟨some 34, Op.buildSlice 82 1 #[(0, (.tmp 33))], _, _, _, _⟩) rfl (fun K hK => ?_) (AllReadyH.cons (o := ⟨some 38, Op.makeMap 83 none, _, _, _, _⟩) rfl (fun K hK => ?_) AllReadyH.nil))
      · skip
        go_simp
        obtain ⟨w12, hnw12⟩ : ∃ w', w11.alloc (.cells #[.int .i64 (-1), .int .u32 0] 47) = w' := ⟨_, rfl⟩
        have hgw12 : w11.grownBy w12 none := by rw [← hnw12]; exact grown_alloc (grown_refl _ _) _
        obtain ⟨B4, hm4⟩ : ∃ B, w11.heap.size = B := ⟨_, rfl⟩
        have hB4 : w12.heap[B4]? = some (.cells #[.int .i64 (-1), .int .u32 0] 47 (0, 0)) := by rw [← hnw12, ← hm4]; exact heap_alloc_new _ _
        have HL4 : Hid (wb.heap.size ≤ B4) := qh (by rw [← hm4]; exact hHeld.size)
        rw [hnw12, hm4]
        clear hnw12 hm4
        have HB4 := qh hB4
        clear hB4
        replace HBP := qh (row_up HBP.out hgw12)
        have hgT := grown_trans hHeld hgw12
        refine hK.out _ _ hgT (fun hHeld => ?_)
        clear hK K hgT hgw12
        try simp only [lay]
        refine wpAnyH_ready (rs := [7, 8]) (by kernel_rfl) (by simp) ?_
        refine (AllReadyH.cons (o := ⟨some 37, Op.call { callee := Callee.value (.func 33), args := #[(.tmp 34), (.tmp 36)], argTypes := #[82, 3] }, _, _, _, _⟩) rfl (fun K hK => ?_) (AllReadyH.cons (o := ⟨some 38, Op.makeMap 83 none, _, _, _, _⟩) rfl (fun K hK => ?_) AllReadyH.nil))
        · skip
          go_simp
          (with_reducible refine (HRP.out _ _ HB4.out).mono ?_); rintro e w13 ⟨rfl, hB7, hgw13⟩
          obtain ⟨B7, hn7⟩ : ∃ B, w12.heap.size = B := ⟨_, rfl⟩
          rw [hn7] at hB7 ⊢
          have HL7 : Hid (wb.heap.size ≤ B7) := qh (by rw [← hn7]; exact hHeld.size)
          clear hn7
          have HB7 := qh hB7
          clear hB7
          go_wp2_with fail
          replace HBP := qh (row_up HBP.out hgw13)
          replace HB4 := qh (row_up HB4.out hgw13)
          have hgT := grown_trans hHeld hgw13
          refine hK.out _ _ hgT (fun hHeld => ?_)
          clear hK K hgT hgw13
          try simp only [lay]
          refine wpAnyH_ready (rs := [8]) (by kernel_rfl) (by simp) ?_
          refine (AllReadyH.cons (o := ⟨some 38, Op.makeMap 83 none, _, _, _, _⟩) rfl (fun K hK => ?_) AllReadyH.nil)
          go_simp
          try rw [hmm]
          try go_simp
          obtain ⟨w14, hnw14⟩ : ∃ w', w13.alloc (.map #[] 0) = w' := ⟨_, rfl⟩
          have hgw14 : w13.grownBy w14 none := by rw [← hnw14]; exact grown_alloc (grown_refl _ _) _
          obtain ⟨B8, hm8⟩ : ∃ B, w13.heap.size = B := ⟨_, rfl⟩
          have hB8 : w14.heap[B8]? = some (.map #[] 0) := by rw [← hnw14, ← hm8]; exact heap_alloc_new _ _
          have HL8 : Hid (wb.heap.size ≤ B8) := qh (by rw [← hm8]; exact hHeld.size)
          rw [hnw14, hm8]
          clear hnw14 hm8
          have HB8 := qh hB8
          clear hB8
          replace HBP := qh (row_up HBP.out hgw14)
          replace HB4 := qh (row_up HB4.out hgw14)
          replace HB7 := qh (row_up HB7.out hgw14)
          have hgT := grown_trans hHeld hgw14
          refine hK.out _ _ hgT (fun hHeld => ?_)
          clear hK K hgT hgw14
          try simp only [lay]
          refine hh.tl 10 ⟨some 40, Op.build 86 #[(0, (.tmp 31)), (1, (.tmp 32)), (2, (.tmp 37)), (3, (.tmp 38)), (4, (.tmp 39))], _, _, _, _⟩ ?v41 rfl ?hy41 ?_
          case hy41 => ((intro w0 hSw; go_simp); try (with_reducible rfl))
          try simp only [lay]
          refine rd1 (i := 11) (o := ⟨some 41, Op.box 86 (.tmp 40), _, _, _, _⟩) rfl (fun K hK => ?_)
          go_simp
          refine hK.out _ _ (grown_alloc hHeld _) (fun hHeld2 => ?_)
          clear hK K
          try simp only [lay]
          refine wpAnyH_take (i := 13) (oi := ⟨some 4, Op.assign (.tmp 41), _, _, _, _⟩) (v := ?v42) rfl (by kernel_rfl) (by kernel_rfl) (by kernel_rfl) (fun _ _ _ h => h) (Or.inl ⟨by rfl, ?hy42⟩) hHeld2 ?rest42
          case hy42 => ((intro w0 hSw; go_simp); try (with_reducible rfl))
          try simp only [lay]
          refine wpAnyH_take (i := 14) (oi := ⟨some 5, Op.assign (.tmp 42), _, _, _, _⟩) (v := ?v43) rfl (by kernel_rfl) (by kernel_rfl) (by kernel_rfl) (fun _ _ _ h => h) (Or.inl ⟨by rfl, ?hy43⟩) hHeld2 ?rest43
          case hy43 => ((intro w0 hSw; go_simp); try (with_reducible rfl))
          try simp only [lay]
          refine wpAnyH_done (by kernel_rfl) ?_ _
          go_wp2_with fail
          go_ret2
          have hgw := grown_trans HG.out hHeld
          exact ⟨_, _, rfl, home_new (HMK.out _ hgw) HMM.out HLL.out HNN.out HN2.out HB7.out HB8.out HBP.out (Nat.le_trans HGS.out (Nat.le_trans HG.out.size HL7.out)) (Nat.le_trans HGS.out (Nat.le_trans HG.out.size HL8.out)) (Nat.le_trans HGS.out (Nat.le_trans HG.out.size HLP.out)) HVV.out, grown_trans HG.out hHeld2, rfl, rfl, hgw.size, new_own (Nat.le_trans HG.out.size HL7.out) (Nat.le_trans HG.out.size HL8.out) (Nat.le_trans HG.out.size HLP.out)⟩
        · skip
          go_simp
          try rw [hmm]
          try go_simp
          obtain ⟨w15, hnw15⟩ : ∃ w', w12.alloc (.map #[] 0) = w' := ⟨_, rfl⟩
          have hgw15 : w12.grownBy w15 none := by rw [← hnw15]; exact grown_alloc (grown_refl _ _) _
          obtain ⟨B8, hm8⟩ : ∃ B, w12.heap.size = B := ⟨_, rfl⟩
          have hB8 : w15.heap[B8]? = some (.map #[] 0) := by rw [← hnw15, ← hm8]; exact heap_alloc_new _ _
          have HL8 : Hid (wb.heap.size ≤ B8) := qh (by rw [← hm8]; exact hHeld.size)
          rw [hnw15, hm8]
          clear hnw15 hm8
          have HB8 := qh hB8
          clear hB8
          replace HBP := qh (row_up HBP.out hgw15)
          replace HB4 := qh (row_up HB4.out hgw15)
          have hgT := grown_trans hHeld hgw15
          refine hK.out _ _ hgT (fun hHeld => ?_)
          clear hK K hgT hgw15
          try simp only [lay]
          refine wpAnyH_ready (rs := [7]) (by kernel_rfl) (by simp) ?_
          refine (AllReadyH.cons (o := ⟨some 37, Op.call { callee := Callee.value (.func 33), args := #[(.tmp 34), (.tmp 36)], argTypes := #[82, 3] }, _, _, _, _⟩) rfl (fun K hK => ?_) AllReadyH.nil)
          go_simp
          (with_reducible refine (HRP.out _ _ HB4.out).mono ?_); rintro e w16 ⟨rfl, hB7, hgw16⟩
          obtain ⟨B7, hn7⟩ : ∃ B, w15.heap.size = B := ⟨_, rfl⟩
          rw [hn7] at hB7 ⊢
          have HL7 : Hid (wb.heap.size ≤ B7) := qh (by rw [← hn7]; exact hHeld.size)
          clear hn7
          have HB7 := qh hB7
          clear hB7
          go_wp2_with fail
          replace HBP := qh (row_up HBP.out hgw16)
          replace HB4 := qh (row_up HB4.out hgw16)
          replace HB8 := qh (row_up HB8.out hgw16)
          have hgT := grown_trans hHeld hgw16
          refine hK.out _ _ hgT (fun hHeld => ?_)
          clear hK K hgT hgw16
          try simp only [lay]
          refine hh.tl 10 ⟨some 40, Op.build 86 #[(0, (.tmp 31)), (1, (.tmp 32)), (2, (.tmp 37)), (3, (.tmp 38)), (4, (.tmp 39))], _, _, _, _⟩ ?v44 rfl ?hy44 ?_
          case hy44 => ((intro w0 hSw; go_simp); try (with_reducible rfl))
          try simp only [lay]
          refine rd1 (i := 11) (o := ⟨some 41, Op.box 86 (.tmp 40), _, _, _, _⟩) rfl (fun K hK => ?_)
          go_simp
          refine hK.out _ _ (grown_alloc hHeld _) (fun hHeld2 => ?_)
          clear hK K
          try simp only [lay]
          refine wpAnyH_take (i := 13) (oi := ⟨some 4, Op.assign (.tmp 41), _, _, _, _⟩) (v := ?v45) rfl (by kernel_rfl) (by kernel_rfl) (by kernel_rfl) (fun _ _ _ h => h) (Or.inl ⟨by rfl, ?hy45⟩) hHeld2 ?rest45
          case hy45 => ((intro w0 hSw; go_simp); try (with_reducible rfl))
          try simp only [lay]
          refine wpAnyH_take (i := 14) (oi := ⟨some 5, Op.assign (.tmp 42), _, _, _, _⟩) (v := ?v46) rfl (by kernel_rfl) (by kernel_rfl) (by kernel_rfl) (fun _ _ _ h => h) (Or.inl ⟨by rfl, ?hy46⟩) hHeld2 ?rest46
          case hy46 => ((intro w0 hSw; go_simp); try (with_reducible rfl))
          try simp only [lay]
          refine wpAnyH_done (by kernel_rfl) ?_ _
          go_wp2_with fail
          go_ret2
          have hgw := grown_trans HG.out hHeld
          exact ⟨_, _, rfl, home_new (HMK.out _ hgw) HMM.out HLL.out HNN.out HN2.out HB7.out HB8.out HBP.out (Nat.le_trans HGS.out (Nat.le_trans HG.out.size HL7.out)) (Nat.le_trans HGS.out (Nat.le_trans HG.out.size HL8.out)) (Nat.le_trans HGS.out (Nat.le_trans HG.out.size HLP.out)) HVV.out, grown_trans HG.out hHeld2, rfl, rfl, hgw.size, new_own (Nat.le_trans HG.out.size HL7.out) (Nat.le_trans HG.out.size HL8.out) (Nat.le_trans HG.out.size HLP.out)⟩
      · skip
        go_simp
        try rw [hmm]
        try go_simp
        obtain ⟨w17, hnw17⟩ : ∃ w', w11.alloc (.map #[] 0) = w' := ⟨_, rfl⟩
        have hgw17 : w11.grownBy w17 none := by rw [← hnw17]; exact grown_alloc (grown_refl _ _) _
        obtain ⟨B8, hm8⟩ : ∃ B, w11.heap.size = B := ⟨_, rfl⟩
        have hB8 : w17.heap[B8]? = some (.map #[] 0) := by rw [← hnw17, ← hm8]; exact heap_alloc_new _ _
        have HL8 : Hid (wb.heap.size ≤ B8) := qh (by rw [← hm8]; exact hHeld.size)
        rw [hnw17, hm8]
        clear hnw17 hm8
        have HB8 := qh hB8
        clear hB8
        replace HBP := qh (row_up HBP.out hgw17)
        have hgT := grown_trans hHeld hgw17
        refine hK.out _ _ hgT (fun hHeld => ?_)
        clear hK K hgT hgw17
        try simp only [lay]
        refine wpAnyH_ready (rs := [4]) (by kernel_rfl) (by simp) ?_
        refine (AllReadyH.cons (o := ⟨some 34, Op.buildSlice 82 1 #[(0, (.tmp 33))], _, _, _, _⟩) rfl (fun K hK => ?_) AllReadyH.nil)
        go_simp
        obtain ⟨w18, hnw18⟩ : ∃ w', w17.alloc (.cells #[.int .i64 (-1), .int .u32 0] 47) = w' := ⟨_, rfl⟩
        have hgw18 : w17.grownBy w18 none := by rw [← hnw18]; exact grown_alloc (grown_refl _ _) _
        obtain ⟨B4, hm4⟩ : ∃ B, w17.heap.size = B := ⟨_, rfl⟩
        have hB4 : w18.heap[B4]? = some (.cells #[.int .i64 (-1), .int .u32 0] 47 (0, 0)) := by rw [← hnw18, ← hm4]; exact heap_alloc_new _ _
        have HL4 : Hid (wb.heap.size ≤ B4) := qh (by rw [← hm4]; exact hHeld.size)
        rw [hnw18, hm4]
        clear hnw18 hm4
        have HB4 := qh hB4
        clear hB4
        replace HBP := qh (row_up HBP.out hgw18)
        replace HB8 := qh (row_up HB8.out hgw18)
        have hgT := grown_trans hHeld hgw18
        refine hK.out _ _ hgT (fun hHeld => ?_)
        clear hK K hgT hgw18
        try simp only [lay]
        refine wpAnyH_ready (rs := [7]) (by kernel_rfl) (by simp) ?_
        refine (AllReadyH.cons (o := ⟨some 37, Op.call { callee := Callee.value (.func 33), args := #[(.tmp 34), (.tmp 36)], argTypes := #[82, 3] }, _, _, _, _⟩) rfl (fun K hK => ?_) AllReadyH.nil)
        go_simp
        (with_reducible refine (HRP.out _ _ HB4.out).mono ?_); rintro e w19 ⟨rfl, hB7, hgw19⟩
        obtain ⟨B7, hn7⟩ : ∃ B, w18.heap.size = B := ⟨_, rfl⟩
        rw [hn7] at hB7 ⊢
        have HL7 : Hid (wb.heap.size ≤ B7) := qh (by rw [← hn7]; exact hHeld.size)
        clear hn7
        have HB7 := qh hB7
        clear hB7
        go_wp2_with fail
        replace HBP := qh (row_up HBP.out hgw19)
        replace HB8 := qh (row_up HB8.out hgw19)
        replace HB4 := qh (row_up HB4.out hgw19)
        have hgT := grown_trans hHeld hgw19
        refine hK.out _ _ hgT (fun hHeld => ?_)
        clear hK K hgT hgw19
        try simp only [lay]
        refine hh.tl 10 ⟨some 40, Op.build 86 #[(0, (.tmp 31)), (1, (.tmp 32)), (2, (.tmp 37)), (3, (.tmp 38)), (4, (.tmp 39))], _, _, _, _⟩ ?v47 rfl ?hy47 ?_
        case hy47 => ((intro w0 hSw; go_simp); try (with_reducible rfl))
        try simp only [lay]
        refine rd1 (i := 11) (o := ⟨some 41, Op.box 86 (.tmp 40), _, _, _, _⟩) rfl (fun K hK => ?_)
        go_simp
        refine hK.out _ _ (grown_alloc hHeld _) (fun hHeld2 => ?_)
        clear hK K
        try simp only [lay]
        refine wpAnyH_take (i := 13) (oi := ⟨some 4, Op.assign (.tmp 41), _, _, _, _⟩) (v := ?v48) rfl (by kernel_rfl) (by kernel_rfl) (by kernel_rfl) (fun _ _ _ h => h) (Or.inl ⟨by rfl, ?hy48⟩) hHeld2 ?rest48
        case hy48 => ((intro w0 hSw; go_simp); try (with_reducible rfl))
        try simp only [lay]
        refine wpAnyH_take (i := 14) (oi := ⟨some 5, Op.assign (.tmp 42), _, _, _, _⟩) (v := ?v49) rfl (by kernel_rfl) (by kernel_rfl) (by kernel_rfl) (fun _ _ _ h => h) (Or.inl ⟨by rfl, ?hy49⟩) hHeld2 ?rest49
        case hy49 => ((intro w0 hSw; go_simp); try (with_reducible rfl))
        try simp only [lay]
        refine wpAnyH_done (by kernel_rfl) ?_ _
        go_wp2_with fail
        go_ret2
        have hgw := grown_trans HG.out hHeld
        exact ⟨_, _, rfl, home_new (HMK.out _ hgw) HMM.out HLL.out HNN.out HN2.out HB7.out HB8.out HBP.out (Nat.le_trans HGS.out (Nat.le_trans HG.out.size HL7.out)) (Nat.le_trans HGS.out (Nat.le_trans HG.out.size HL8.out)) (Nat.le_trans HGS.out (Nat.le_trans HG.out.size HLP.out)) HVV.out, grown_trans HG.out hHeld2, rfl, rfl, hgw.size, new_own (Nat.le_trans HG.out.size HL7.out) (Nat.le_trans HG.out.size HL8.out) (Nat.le_trans HG.out.size HLP.out)⟩
    · skip
      go_simp
      try rw [hmm]
      try go_simp
      obtain ⟨w20, hnw20⟩ : ∃ w', w1.alloc (.map #[] 0) = w' := ⟨_, rfl⟩
      have hgw20 : w1.grownBy w20 none := by rw [← hnw20]; exact grown_alloc (grown_refl _ _) _
      obtain ⟨B8, hm8⟩ : ∃ B, w1.heap.size = B := ⟨_, rfl⟩
      have hB8 : w20.heap[B8]? = some (.map #[] 0) := by rw [← hnw20, ← hm8]; exact heap_alloc_new _ _
      have HL8 : Hid (wb.heap.size ≤ B8) := qh (by rw [← hm8]; exact hHeld.size)
      rw [hnw20, hm8]
      clear hnw20 hm8
      have HB8 := qh hB8
      clear hB8
      replace HBP := qh (row_up HBP.out hgw20)
      have hgT := grown_trans hHeld hgw20
      refine hK.out _ _ hgT (fun hHeld => ?_)
      clear hK K hgT hgw20
      try simp only [lay]
      refine wpAnyH_ready (rs := [4, 6]) (by kernel_rfl) (by simp) ?_
      refine (AllReadyH.cons (o := ⟨some 34, Op.buildSlice 82 1 #[(0, (.tmp 33))], _, _, _, _⟩) rfl (fun K hK => ?_) (AllReadyH.cons (o := ⟨some 36, Op.call { callee := Callee.value (.func 26), args := #[(.tmp 35)], argTypes := #[40] }, _, _, _, _⟩) rfl (fun K hK => ?_) AllReadyH.nil))
      · skip
        go_simp
        obtain ⟨w21, hnw21⟩ : ∃ w', w20.alloc (.cells #[.int .i64 (-1), .int .u32 0] 47) = w' := ⟨_, rfl⟩
        have hgw21 : w20.grownBy w21 none := by rw [← hnw21]; exact grown_alloc (grown_refl _ _) _
        obtain ⟨B4, hm4⟩ : ∃ B, w20.heap.size = B := ⟨_, rfl⟩
        have hB4 : w21.heap[B4]? = some (.cells #[.int .i64 (-1), .int .u32 0] 47 (0, 0)) := by rw [← hnw21, ← hm4]; exact heap_alloc_new _ _
        have HL4 : Hid (wb.heap.size ≤ B4) := qh (by rw [← hm4]; exact hHeld.size)
        rw [hnw21, hm4]
        clear hnw21 hm4
        have HB4 := qh hB4
        clear hB4
        replace HBP := qh (row_up HBP.out hgw21)
        replace HB8 := qh (row_up HB8.out hgw21)
        have hgT := grown_trans hHeld hgw21
        refine hK.out _ _ hgT (fun hHeld => ?_)
        clear hK K hgT hgw21
        try simp only [lay]
        refine wpAnyH_ready (rs := [6]) (by kernel_rfl) (by simp) ?_
        refine (AllReadyH.cons (o := ⟨some 36, Op.call { callee := Callee.value (.func 26), args := #[(.tmp 35)], argTypes := #[40] }, _, _, _, _⟩) rfl (fun K hK => ?_) AllReadyH.nil)
        go_simp
        (with_reducible refine (HD.out _ hHeld).mono ?_); rintro e w22 ⟨rfl, hgw22⟩
        go_wp2_with fail
        replace HBP := qh (row_up HBP.out hgw22)
        replace HB8 := qh (row_up HB8.out hgw22)
        replace HB4 := qh (row_up HB4.out hgw22)
        have hgT := grown_trans hHeld hgw22
        refine hK.out _ _ hgT (fun hHeld => ?_)
        clear hK K hgT hgw22
        try simp only [lay]
        refine wpAnyH_ready (rs := [7]) (by kernel_rfl) (by simp) ?_
        refine (AllReadyH.cons (o := ⟨some 37, Op.call { callee := Callee.value (.func 33), args := #[(.tmp 34), (.tmp 36)], argTypes := #[82, 3] }, _, _, _, _⟩) rfl (fun K hK => ?_) AllReadyH.nil)
        go_simp
        (with_reducible refine (HRP.out _ _ HB4.out).mono ?_); rintro e w23 ⟨rfl, hB7, hgw23⟩
        obtain ⟨B7, hn7⟩ : ∃ B, w22.heap.size = B := ⟨_, rfl⟩
        rw [hn7] at hB7 ⊢
        have HL7 : Hid (wb.heap.size ≤ B7) := qh (by rw [← hn7]; exact hHeld.size)
        clear hn7
        have HB7 := qh hB7
        clear hB7
        go_wp2_with fail
        replace HBP := qh (row_up HBP.out hgw23)
        replace HB8 := qh (row_up HB8.out hgw23)
        replace HB4 := qh (row_up HB4.out hgw23)
        have hgT := grown_trans hHeld hgw23
        refine hK.out _ _ hgT (fun hHeld => ?_)
        clear hK K hgT hgw23
        try simp only [lay]
        refine hh.tl 10 ⟨some 40, Op.build 86 #[(0, (.tmp 31)), (1, (.tmp 32)), (2, (.tmp 37)), (3, (.tmp 38)), (4, (.tmp 39))], _, _, _, _⟩ ?v50 rfl ?hy50 ?_
        case hy50 => ((intro w0 hSw; go_simp); try (with_reducible rfl))
        try simp only [lay]
        refine rd1 (i := 11) (o := ⟨some 41, Op.box 86 (.tmp 40), _, _, _, _⟩) rfl (fun K hK => ?_)
        go_simp
        refine hK.out _ _ (grown_alloc hHeld _) (fun hHeld2 => ?_)
        clear hK K
        try simp only [lay]
        refine wpAnyH_take (i := 13) (oi := ⟨some 4, Op.assign (.tmp 41), _, _, _, _⟩) (v := ?v51) rfl (by kernel_rfl) (by kernel_rfl) (by kernel_rfl) (fun _ _ _ h => h) (Or.inl ⟨by rfl, ?hy51⟩) hHeld2 ?rest51
        case hy51 => ((intro w0 hSw; go_simp); try (with_reducible rfl))
        try simp only [lay]
        refine wpAnyH_take (i := 14) (oi := ⟨some 5, Op.assign (.tmp 42), _, _, _, _⟩) (v := ?v52) rfl (by kernel_rfl) (by kernel_rfl) (by kernel_rfl) (fun _ _ _ h => h) (Or.inl ⟨by rfl, ?hy52⟩) hHeld2 ?rest52
        case hy52 => ((intro w0 hSw; go_simp); try (with_reducible rfl))
        try simp only [lay]
        refine wpAnyH_done (by kernel_rfl) ?_ _
        go_wp2_with fail
        go_ret2
        have hgw := grown_trans HG.out hHeld
        exact ⟨_, _, rfl, home_new (HMK.out _ hgw) HMM.out HLL.out HNN.out HN2.out HB7.out HB8.out HBP.out (Nat.le_trans HGS.out (Nat.le_trans HG.out.size HL7.out)) (Nat.le_trans HGS.out (Nat.le_trans HG.out.size HL8.out)) (Nat.le_trans HGS.out (Nat.le_trans HG.out.size HLP.out)) HVV.out, grown_trans HG.out hHeld2, rfl, rfl, hgw.size, new_own (Nat.le_trans HG.out.size HL7.out) (Nat.le_trans HG.out.size HL8.out) (Nat.le_trans HG.out.size HLP.out)⟩
      · skip
        go_simp
        (with_reducible refine (HD.out _ hHeld).mono ?_); rintro e w24 ⟨rfl, hgw24⟩
        go_wp2_with fail
        replace HBP := qh (row_up HBP.out hgw24)
        replace HB8 := qh (row_up HB8.out hgw24)
        have hgT := grown_trans hHeld hgw24
        refine hK.out _ _ hgT (fun hHeld => ?_)
        clear hK K hgT hgw24
        try simp only [lay]
        refine wpAnyH_ready (rs := [4]) (by kernel_rfl) (by simp) ?_
        refine (AllReadyH.cons (o := ⟨some 34, Op.buildSlice 82 1 #[(0, (.tmp 33))], _, _, _, _⟩) rfl (fun K hK => ?_) AllReadyH.nil)
        go_simp
        obtain ⟨w25, hnw25⟩ : ∃ w', w24.alloc (.cells #[.int .i64 (-1), .int .u32 0] 47) = w' := ⟨_, rfl⟩
        have hgw25 : w24.grownBy w25 none := by rw [← hnw25]; exact grown_alloc (grown_refl _ _) _
        obtain ⟨B4, hm4⟩ : ∃ B, w24.heap.size = B := ⟨_, rfl⟩
        have hB4 : w25.heap[B4]? = some (.cells #[.int .i64 (-1), .int .u32 0] 47 (0, 0)) := by rw [← hnw25, ← hm4]; exact heap_alloc_new _ _
        have HL4 : Hid (wb.heap.size ≤ B4) := qh (by rw [← hm4]; exact hHeld.size)
        rw [hnw25, hm4]
        clear hnw25 hm4
        have HB4 := qh hB4
        clear hB4
        replace HBP := qh (row_up HBP.out hgw25)
        replace HB8 := qh (row_up HB8.out hgw25)
        have hgT := grown_trans hHeld hgw25
        refine hK.out _ _ hgT (fun hHeld => ?_)
        clear hK K hgT hgw25
        try simp only [lay]
        refine wpAnyH_ready (rs := [7]) (by kernel_rfl) (by simp) ?_
        refine (AllReadyH.cons (o := ⟨some 37, Op.call { callee := Callee.value (.func 33), args := #[(.tmp 34), (.tmp 36)], argTypes := #[82, 3] }, _, _, _, _⟩) rfl (fun K hK => ?_) AllReadyH.nil)
        go_simp
        (with_reducible refine (HRP.out _ _ HB4.out).mono ?_); rintro e w26 ⟨rfl, hB7, hgw26⟩
        obtain ⟨B7, hn7⟩ : ∃ B, w25.heap.size = B := ⟨_, rfl⟩
        rw [hn7] at hB7 ⊢
        have HL7 : Hid (wb.heap.size ≤ B7) := qh (by rw [← hn7]; exact hHeld.size)
        clear hn7
        have HB7 := qh hB7
        clear hB7
        go_wp2_with fail
        replace HBP := qh (row_up HBP.out hgw26)
        replace HB8 := qh (row_up HB8.out hgw26)
        replace HB4 := qh (row_up HB4.out hgw26)
        have hgT := grown_trans hHeld hgw26
        refine hK.out _ _ hgT (fun hHeld => ?_)
        clear hK K hgT hgw26
        try simp only [lay]
        refine hh.tl 10 ⟨some 40, Op.build 86 #[(0, (.tmp 31)), (1, (.tmp 32)), (2, (.tmp 37)), (3, (.tmp 38)), (4, (.tmp 39))], _, _, _, _⟩ ?v53 rfl ?hy53 ?_
        case hy53 => ((intro w0 hSw; go_simp); try (with_reducible rfl))
        try simp only [lay]
        refine rd1 (i := 11) (o := ⟨some 41, Op.box 86 (.tmp 40), _, _, _, _⟩) rfl (fun K hK => ?_)
        go_simp
        refine hK.out _ _ (grown_alloc hHeld _) (fun hHeld2 => ?_)
        clear hK K
        try simp only [lay]
        refine wpAnyH_take (i := 13) (oi := ⟨some 4, Op.assign (.tmp 41), _, _, _, _⟩) (v := ?v54) rfl (by kernel_rfl) (by kernel_rfl) (by kernel_rfl) (fun _ _ _ h => h) (Or.inl ⟨by rfl, ?hy54⟩) hHeld2 ?rest54
        case hy54 => ((intro w0 hSw; go_simp); try (with_reducible rfl))
        try simp only [lay]
        refine wpAnyH_take (i := 14) (oi := ⟨some 5, Op.assign (.tmp 42), _, _, _, _⟩) (v := ?v55) rfl (by kernel_rfl) (by kernel_rfl) (by kernel_rfl) (fun _ _ _ h => h) (Or.inl ⟨by rfl, ?hy55⟩) hHeld2 ?rest55
        case hy55 => ((intro w0 hSw; go_simp); try (with_reducible rfl))
        try simp only [lay]
        refine wpAnyH_done (by kernel_rfl) ?_ _
        go_wp2_with fail
        go_ret2
        have hgw := grown_trans HG.out hHeld
        exact ⟨_, _, rfl, home_new (HMK.out _ hgw) HMM.out HLL.out HNN.out HN2.out HB7.out HB8.out HBP.out (Nat.le_trans HGS.out (Nat.le_trans HG.out.size HL7.out)) (Nat.le_trans HGS.out (Nat.le_trans HG.out.size HL8.out)) (Nat.le_trans HGS.out (Nat.le_trans HG.out.size HLP.out)) HVV.out, grown_trans HG.out hHeld2, rfl, rfl, hgw.size, new_own (Nat.le_trans HG.out.size HL7.out) (Nat.le_trans HG.out.size HL8.out) (Nat.le_trans HG.out.size HLP.out)⟩
  · skip
    go_simp
    try rw [hmm]
    try go_simp
    obtain ⟨w27, hnw27⟩ : ∃ w', wd6.alloc (.map #[] 0) = w' := ⟨_, rfl⟩
    have hgw27 : wd6.grownBy w27 none := by rw [← hnw27]; exact grown_alloc (grown_refl _ _) _
    obtain ⟨B8, hm8⟩ : ∃ B, wd6.heap.size = B := ⟨_, rfl⟩
    have hB8 : w27.heap[B8]? = some (.map #[] 0) := by rw [← hnw27, ← hm8]; exact heap_alloc_new _ _
    have HL8 : Hid (wb.heap.size ≤ B8) := qh (by rw [← hm8]; exact hHeld.size)
    rw [hnw27, hm8]
    clear hnw27 hm8
    have HB8 := qh hB8
    clear hB8
    replace HBP := qh (row_up HBP.out hgw27)
    have hgT := grown_trans hHeld hgw27
    refine hK.out _ _ hgT (fun hHeld => ?_)
    clear hK K hgT hgw27
    try simp only [lay]
    refine wpAnyH_ready (rs := [3]) (by kernel_rfl) (by simp) ?_
    refine (AllReadyH.cons (o := ⟨some 33, Op.call { callee := Callee.value (.func 34), args := #[], argTypes := #[] }, _, _, _, _⟩) rfl (fun K hK => ?_) AllReadyH.nil)
    go_simp
    (with_reducible refine (HF.out _).mono ?_); rintro e w28 ⟨rfl, hgw28⟩
    go_wp2_with fail
    replace HBP := qh (row_up HBP.out hgw28)
    replace HB8 := qh (row_up HB8.out hgw28)
    have hgT := grown_trans hHeld hgw28
    refine hK.out _ _ hgT (fun hHeld => ?_)
    clear hK K hgT hgw28
    try simp only [lay]
    refine wpAnyH_ready (rs := [4, 6]) (by kernel_rfl) (by simp) ?_
    refine (AllReadyH.cons (o := ⟨some 34, Op.buildSlice 82 1 #[(0, (.tmp 33))], _, _, _, _⟩) rfl (fun K hK => ?_) (AllReadyH.cons (o := ⟨some 36, Op.call { callee := Callee.value (.func 26), args := #[(.tmp 35)], argTypes := #[40] }, _, _, _, _⟩) rfl (fun K hK => ?_) AllReadyH.nil))
    · skip
      go_simp
      obtain ⟨w29, hnw29⟩ : ∃ w', w28.alloc (.cells #[.int .i64 (-1), .int .u32 0] 47) = w' := ⟨_, rfl⟩
      have hgw29 : w28.grownBy w29 none := by rw [← hnw29]; exact grown_alloc (grown_refl _ _) _
      obtain ⟨B4, hm4⟩ : ∃ B, w28.heap.size = B := ⟨_, rfl⟩
      have hB4 : w29.heap[B4]? = some (.cells #[.int .i64 (-1), .int .u32 0] 47 (0, 0)) := by rw [← hnw29, ← hm4]; exact heap_alloc_new _ _
      have HL4 : Hid (wb.heap.size ≤ B4) := qh (by rw [← hm4]; exact hHeld.size)
      rw [hnw29, hm4]
      clear hnw29 hm4
      have HB4 := qh hB4
      clear hB4
      replace HBP := qh (row_up HBP.out hgw29)
      replace HB8 := qh (row_up HB8.out hgw29)
      have hgT := grown_trans hHeld hgw29
      refine hK.out _ _ hgT (fun hHeld => ?_)
      clear hK K hgT hgw29
      try simp only [lay]
      refine wpAnyH_ready (rs := [6]) (by kernel_rfl) (by simp) ?_
      refine (AllReadyH.cons (o := ⟨some 36, Op.call { callee := Callee.value (.func 26), args := #[(.tmp 35)], argTypes := #[40] }, _, _, _, _⟩) rfl (fun K hK => ?_) AllReadyH.nil)
      go_simp
      (with_reducible refine (HD.out _ hHeld).mono ?_); rintro e w30 ⟨rfl, hgw30⟩
      go_wp2_with fail
      replace HBP := qh (row_up HBP.out hgw30)
      replace HB8 := qh (row_up HB8.out hgw30)
      replace HB4 := qh (row_up HB4.out hgw30)
      have hgT := grown_trans hHeld hgw30
      refine hK.out _ _ hgT (fun hHeld => ?_)
      clear hK K hgT hgw30
      try simp only [lay]
      refine wpAnyH_ready (rs := [7]) (by kernel_rfl) (by simp) ?_
      refine (AllReadyH.cons (o := ⟨some 37, Op.call { callee := Callee.value (.func 33), args := #[(.tmp 34), (.tmp 36)], argTypes := #[82, 3] }, _, _, _, _⟩) rfl (fun K hK => ?_) AllReadyH.nil)
      go_simp
      (with_reducible refine (HRP.out _ _ HB4.out).mono ?_); rintro e w31 ⟨rfl, hB7, hgw31⟩
      obtain ⟨B7, hn7⟩ : ∃ B, w30.heap.size = B := ⟨_, rfl⟩
      rw [hn7] at hB7 ⊢
      have HL7 : Hid (wb.heap.size ≤ B7) := qh (by rw [← hn7]; exact hHeld.size)
      clear hn7
      have HB7 := qh hB7
      clear hB7
      go_wp2_with fail
      replace HBP := qh (row_up HBP.out hgw31)
      replace HB8 := qh (row_up HB8.out hgw31)
      replace HB4 := qh (row_up HB4.out hgw31)
      have hgT := grown_trans hHeld hgw31
      refine hK.out _ _ hgT (fun hHeld => ?_)
      clear hK K hgT hgw31
      try simp only [lay]
      refine hh.tl 10 ⟨some 40, Op.build 86 #[(0, (.tmp 31)), (1, (.tmp 32)), (2, (.tmp 37)), (3, (.tmp 38)), (4, (.tmp 39))], _, _, _, _⟩ ?v56 rfl ?hy56 ?_
      case hy56 => ((intro w0 hSw; go_simp); try (with_reducible rfl))
      try simp only [lay]
      refine rd1 (i := 11) (o := ⟨some 41, Op.box 86 (.tmp 40), _, _, _, _⟩) rfl (fun K hK => ?_)
      go_simp
      refine hK.out _ _ (grown_alloc hHeld _) (fun hHeld2 => ?_)
      clear hK K
      try simp only [lay]
      refine wpAnyH_take (i := 13) (oi := ⟨some 4, Op.assign (.tmp 41), _, _, _, _⟩) (v := ?v57) rfl (by kernel_rfl) (by kernel_rfl) (by kernel_rfl) (fun _ _ _ h => h) (Or.inl ⟨by rfl, ?hy57⟩) hHeld2 ?rest57
      case hy57 => ((intro w0 hSw; go_simp); try (with_reducible rfl))
      try simp only [lay]
      refine wpAnyH_take (i := 14) (oi := ⟨some 5, Op.assign (.tmp 42), _, _, _, _⟩) (v := ?v58) rfl (by kernel_rfl) (by kernel_rfl) (by kernel_rfl) (fun _ _ _ h => h) (Or.inl ⟨by rfl, ?hy58⟩) hHeld2 ?rest58
      case hy58 => ((intro w0 hSw; go_simp); try (with_reducible rfl))
      try simp only [lay]
      refine wpAnyH_done (by kernel_rfl) ?_ _
      go_wp2_with fail
      go_ret2
      have hgw := grown_trans HG.out hHeld
      exact ⟨_, _, rfl, home_new (HMK.out _ hgw) HMM.out HLL.out HNN.out HN2.out HB7.out HB8.out HBP.out (Nat.le_trans HGS.out (Nat.le_trans HG.out.size HL7.out)) (Nat.le_trans HGS.out (Nat.le_trans HG.out.size HL8.out)) (Nat.le_trans HGS.out (Nat.le_trans HG.out.size HLP.out)) HVV.out, grown_trans HG.out hHeld2, rfl, rfl, hgw.size, new_own (Nat.le_trans HG.out.size HL7.out) (Nat.le_trans HG.out.size HL8.out) (Nat.le_trans HG.out.size HLP.out)⟩
    · skip
      go_simp
      (with_reducible refine (HD.out _ hHeld).mono ?_); rintro e w32 ⟨rfl, hgw32⟩
      go_wp2_with fail
      replace HBP := qh (row_up HBP.out hgw32)
      replace HB8 := qh (row_up HB8.out hgw32)
      have hgT := grown_trans hHeld hgw32
      refine hK.out _ _ hgT (fun hHeld => ?_)
      clear hK K hgT hgw32
      try simp only [lay]
      refine wpAnyH_ready (rs := [4]) (by kernel_rfl) (by simp) ?_
      refine (AllReadyH.cons (o := ⟨some 34, Op.buildSlice 82 1 #[(0, (.tmp 33))], _, _, _, _⟩) rfl (fun K hK => ?_) AllReadyH.nil)
      go_simp
      obtain ⟨w33, hnw33⟩ : ∃ w', w32.alloc (.cells #[.int .i64 (-1), .int .u32 0] 47) = w' := ⟨_, rfl⟩
      have hgw33 : w32.grownBy w33 none := by rw [← hnw33]; exact grown_alloc (grown_refl _ _) _
      obtain ⟨B4, hm4⟩ : ∃ B, w32.heap.size = B := ⟨_, rfl⟩
      have hB4 : w33.heap[B4]? = some (.cells #[.int .i64 (-1), .int .u32 0] 47 (0, 0)) := by rw [← hnw33, ← hm4]; exact heap_alloc_new _ _
      have HL4 : Hid (wb.heap.size ≤ B4) := qh (by rw [← hm4]; exact hHeld.size)
      rw [hnw33, hm4]
      clear hnw33 hm4
      have HB4 := qh hB4
      clear hB4
      replace HBP := qh (row_up HBP.out hgw33)
      replace HB8 := qh (row_up HB8.out hgw33)
      have hgT := grown_trans hHeld hgw33
      refine hK.out _ _ hgT (fun hHeld => ?_)
      clear hK K hgT hgw33
      try simp only [lay]
      refine wpAnyH_ready (rs := [7]) (by kernel_rfl) (by simp) ?_
      refine (AllReadyH.cons (o := ⟨some 37, Op.call { callee := Callee.value (.func 33), args := #[(.tmp 34), (.tmp 36)], argTypes := #[82, 3] }, _, _, _, _⟩) rfl (fun K hK => ?_) AllReadyH.nil)
      go_simp
      (with_reducible refine (HRP.out _ _ HB4.out).mono ?_); rintro e w34 ⟨rfl, hB7, hgw34⟩
      obtain ⟨B7, hn7⟩ : ∃ B, w33.heap.size = B := ⟨_, rfl⟩
      rw [hn7] at hB7 ⊢
      have HL7 : Hid (wb.heap.size ≤ B7) := qh (by rw [← hn7]; exact hHeld.size)
      clear hn7
      have HB7 := qh hB7
      clear hB7
      go_wp2_with fail
      replace HBP := qh (row_up HBP.out hgw34)
      replace HB8 := qh (row_up HB8.out hgw34)
      replace HB4 := qh (row_up HB4.out hgw34)
      have hgT := grown_trans hHeld hgw34
      refine hK.out _ _ hgT (fun hHeld => ?_)
      clear hK K hgT hgw34
      try simp only [lay]
      refine hh.tl 10 ⟨some 40, Op.build 86 #[(0, (.tmp 31)), (1, (.tmp 32)), (2, (.tmp 37)), (3, (.tmp 38)), (4, (.tmp 39))], _, _, _, _⟩ ?v59 rfl ?hy59 ?_
      case hy59 => ((intro w0 hSw; go_simp); try (with_reducible rfl))
      try simp only [lay]
      refine rd1 (i := 11) (o := ⟨some 41, Op.box 86 (.tmp 40), _, _, _, _⟩) rfl (fun K hK => ?_)
      go_simp
      refine hK.out _ _ (grown_alloc hHeld _) (fun hHeld2 => ?_)
      clear hK K
      try simp only [lay]
      refine wpAnyH_take (i := 13) (oi := ⟨some 4, Op.assign (.tmp 41), _, _, _, _⟩) (v := ?v60) rfl (by kernel_rfl) (by kernel_rfl) (by kernel_rfl) (fun _ _ _ h => h) (Or.inl ⟨by rfl, ?hy60⟩) hHeld2 ?rest60
      case hy60 => ((intro w0 hSw; go_simp); try (with_reducible rfl))
      try simp only [lay]
      refine wpAnyH_take (i := 14) (oi := ⟨some 5, Op.assign (.tmp 42), _, _, _, _⟩) (v := ?v61) rfl (by kernel_rfl) (by kernel_rfl) (by kernel_rfl) (fun _ _ _ h => h) (Or.inl ⟨by rfl, ?hy61⟩) hHeld2 ?rest61
      case hy61 => ((intro w0 hSw; go_simp); try (with_reducible rfl))
      try simp only [lay]
      refine wpAnyH_done (by kernel_rfl) ?_ _
      go_wp2_with fail
      go_ret2
      have hgw := grown_trans HG.out hHeld
      exact ⟨_, _, rfl, home_new (HMK.out _ hgw) HMM.out HLL.out HNN.out HN2.out HB7.out HB8.out HBP.out (Nat.le_trans HGS.out (Nat.le_trans HG.out.size HL7.out)) (Nat.le_trans HGS.out (Nat.le_trans HG.out.size HL8.out)) (Nat.le_trans HGS.out (Nat.le_trans HG.out.size HLP.out)) HVV.out, grown_trans HG.out hHeld2, rfl, rfl, hgw.size, new_own (Nat.le_trans HG.out.size HL7.out) (Nat.le_trans HG.out.size HL8.out) (Nat.le_trans HG.out.size HLP.out)⟩
end Go.Proofs.YtenhdijbcdkfbaaDoor.hh
