/-
  What Send and Take of a net answer, and the net behind these: contracts. Condition: the tables of bounds and of kinds lie in their variables as the program's text has them.
-/
import Derived.Test.YtoemkhmbeiindaaDoorNs
namespace Go.Proofs.YtoemkhmbeiindaaDoor.tt
open Go Go.ChangeShapes Go.WideShapes Go.ChangeAt Go.RowKit
set_option linter.unusedVariables false

theorem NetAt.put {w w' : World} {t p r : Nat} {c : Cfg} {v v' : Value} {ns ns' : List Nt} {h : Int} (H : NetAt w t p c r v ns h) (hP : NPool w' p v' (capOf c r) ns') (hT : Turn w w' p v v') (hI : NInv c r ns') : NetAt w' t p c r v' ns' h :=
  ⟨(hT.block t H.lt H.tp H.tv).trans H.blk, hP, hI⟩
theorem range_turn {w w' : World} {g p : Nat} {v v' : Value} {xs : List Value} (hT : Turn w w' p v v') (h : w.rangeAt g 0 xs) (hp : g ≠ p) (hv : some g ≠ v.ownBlock) (hg : g < w.heap.size) : w'.rangeAt g 0 xs := fun j x hx => by
  have := h j x hx
  rw [← this]
  exact World.cell?_of_block (hT.block g hg hp hv)
section
variable (t p : Nat) (c : Cfg) (r : Nat) (v : Value) (ns : List Nt) (h : Int) (n : Nt) (w : World) (H : NetAt w t p c r v ns h) (hT : Tab w) (hK : TabK w)
include H hT hK
set_option maxRecDepth 100000 in
set_option maxHeartbeats 1000000 in
theorem nsend_bad (hf : ¬ fits c n) : Calls Tryd.prog 12 #[.pointer (some ⟨t, 0, none⟩), .agg (na n)] w fun e w' => e = .returned (.int .i64 2) ∧ w.grownBy w' none := by
  have hg : w.grownBy (w.alloc (.cells (na n) 37)) none := grown_alloc (grown_refl _ _) _
  have HF := Lib.hid (nfits_any t p c r v ns h n (w.alloc (.cells (na n) 37)) (H.grown hg) (hT.grown hg) (hK.grown hg))
  rw [decide_eq_false hf] at HF
  have HN : Hid ((w.alloc (.cells (na n) 37)).rangeAt w.heap.size 0 (nt n)) := Lib.hid (range_of (heap_alloc_new _ _))
  have HG := Lib.hid hg
  clear H hT hK hf hg
  go_enter Tryd.func12, Tryd.ntmps12
  go_wp2_with (first
    | ((with_reducible refine load_nt n _ w.heap.size ?_ HN.out ?_); (rfl))
    | (go_at_call 32; ((with_reducible refine HF.out.mono ?_); rintro e w1 ⟨rfl, hg1⟩; have HG1 := Lib.hid hg1; clear hg1)))
  go_ret
  exact ⟨rfl, grown_trans HG.out HG1.out⟩
set_option maxRecDepth 100000 in
set_option maxHeartbeats 1000000 in
theorem nsend_full (hf : fits c n) (hr : ¬ many ns n.t (net n.k) < r) : Calls Tryd.prog 12 #[.pointer (some ⟨t, 0, none⟩), .agg (na n)] w fun e w' => e = .returned (.int .i64 7) ∧ w.grownBy w' none := by
  have hg : w.grownBy (w.alloc (.cells (na n) 37)) none := grown_alloc (grown_refl _ _) _
  have HF := Lib.hid (nfits_any t p c r v ns h n (w.alloc (.cells (na n) 37)) (H.grown hg) (hT.grown hg) (hK.grown hg))
  rw [decide_eq_true hf] at HF
  have hq : (r : Int) - (many ns n.t (net n.k) : Int) = 0 := by have := H.inv.room n.t (net n.k); omega
  have HRM : Hid (∀ w', w.grownBy w' none → _) := Lib.hid fun w' h' => nroom_any t p c r v ns h w' (H.grown h') n.t (net n.k)
  rw [room_of hf, hq] at HRM
  have HNT : Hid (∀ w, _) := Lib.hid fun w => net_any n.k w
  have HR : Hid (∀ w', (w.alloc (.cells (na n) 37)).grownBy w' none → w'.rangeAt w.heap.size 0 (nt n)) := Lib.hid fun w' h' => range_grown (range_of (heap_alloc_new _ _)) h' (by simp)
  have HG := Lib.hid hg
  obtain ⟨m, hm⟩ : ∃ m, m = net n.k := ⟨_, rfl⟩
  rw [← hm] at HRM HNT
  clear H hT hK hf hr hq hm
  go_enter Tryd.func12, Tryd.ntmps12
  go_wp2_with (first
    | ((with_reducible refine load_nt n _ w.heap.size ?_ (HR.out _ (grown_refl _ _)) ?_); (rfl))
    | (go_at_call 32; ((with_reducible refine HF.out.mono ?_); rintro e w1 ⟨rfl, hg1⟩; have HG1 := Lib.hid hg1; clear hg1)))
  have HK : Hid (∀ w', w1.grownBy w' none → w'.cell? ⟨w.heap.size, 0, none⟩ = some (.int .u8 n.k) ∧ w'.cell? ⟨w.heap.size, 2, none⟩ = some (.int .i64 n.t)) := Lib.hid fun w' h' => ⟨cell_at (HR.out w' (grown_trans HG1.out h')) 0 _ rfl, cell_at (HR.out w' (grown_trans HG1.out h')) 2 _ rfl⟩
  go_region_held3 (fun w' => (w'.cell? ⟨w.heap.size, 0, none⟩ = some (.int .u8 n.k) ∧ w'.cell? ⟨w.heap.size, 2, none⟩ = some (.int .i64 n.t)) ∧ w1.grownBy w' none) (first | exact ⟨HK.out _ (grown_refl _ _), grown_refl _ _⟩ | exact ⟨HK.out _ (grown_drew (grown_refl _ _)), grown_drew (grown_refl _ _)⟩ | assumption | exact keep_gr HK (by assumption) (by assumption) | exact keep_gr HK (by assumption) (grown_drew (grown_refl _ _))) (first
      | (go_at_call 29; ((refine (HNT.out _).mono ?_); rintro e w9 ⟨rfl, rfl⟩))
      | (go_at_call 18; ((refine (HRM.out _ (grown_trans (grown_trans HG.out HG1.out) (And.right (by assumption : _ ∧ w1.grownBy _ none)))).mono ?_); rintro e w10 ⟨rfl, hg10⟩)))
  all_goals
    (have HE := Lib.hid (And.right (by assumption : _ ∧ w1.grownBy w10 none))
     go_wp2_with fail
     go_ret
     exact ⟨rfl, grown_trans (grown_trans HG.out HG1.out) HE.out⟩)
set_option maxRecDepth 100000 in
set_option maxHeartbeats 2000000 in
theorem nsend_ok (hf : fits c n) (hr : many ns n.t (net n.k) < r) : Calls Tryd.prog 12 #[.pointer (some ⟨t, 0, none⟩), .agg (na n)] w fun e w' => e = .returned (.int .i64 0) ∧ ∃ v', NetAt w' t p c r v' (ns ++ [n]) h ∧ NTurn w w' t p v v' := by
  have hg : w.grownBy (w.alloc (.cells (na n) 37)) none := grown_alloc (grown_refl _ _) _
  have HF := Lib.hid (nfits_any t p c r v ns h n (w.alloc (.cells (na n) 37)) (H.grown hg) (hT.grown hg) (hK.grown hg))
  rw [decide_eq_true hf] at HF
  have HRM : Hid (∀ w', w.grownBy w' none → _) := Lib.hid fun w' h' => nroom_any t p c r v ns h w' (H.grown h') n.t (net n.k)
  rw [room_of hf] at HRM
  have hq : ((r : Int) - (many ns n.t (net n.k) : Int) == 0) = false := by simp; omega
  have HNT : Hid (∀ w, _) := Lib.hid fun w => net_any n.k w
  have HR : Hid (∀ w', (w.alloc (.cells (na n) 37)).grownBy w' none → w'.rangeAt w.heap.size 0 (nt n)) := Lib.hid fun w' h' => range_grown (range_of (heap_alloc_new _ _)) h' (by simp)
  have HG := Lib.hid hg
  have HI8 := Lib.hid (H.inv.snoc hf hr)
  have HPU : Hid (∀ w', w.grownBy w' none → _) := Lib.hid fun w' h' => pput_ok p v (capOf c r) ns n w' (H.grown h').pool (len_lt H.inv hf hr) (by have := (cap_bounds H.inv.may H.inv.r1 H.inv.r2).2; omega)
  have HH := Lib.hid H
  have HLT := Lib.hid H.pool.lt
  have HLV : Hid (∀ k, v.ownBlock = some k → k < w.heap.size) := Lib.hid H.pool.sl.lt
  obtain ⟨m, hm⟩ : ∃ m, m = net n.k := ⟨_, rfl⟩
  rw [← hm] at HRM HNT hq
  obtain ⟨q, hqq⟩ : ∃ q, q = (r : Int) - (many ns n.t m : Int) := ⟨_, rfl⟩
  rw [← hqq] at HRM hq
  clear H hT hK hf hr hm hqq hg
  go_enter Tryd.func12, Tryd.ntmps12
  go_wp2_with (first
    | ((with_reducible refine load_nt n _ w.heap.size ?_ (HR.out _ (grown_refl _ _)) ?_); (rfl))
    | (go_at_call 32; ((with_reducible refine HF.out.mono ?_); rintro e w1 ⟨rfl, hg1⟩; have HG1 := Lib.hid hg1; clear hg1)))
  have HK : Hid (∀ w', w1.grownBy w' none → w'.cell? ⟨w.heap.size, 0, none⟩ = some (.int .u8 n.k) ∧ w'.cell? ⟨w.heap.size, 2, none⟩ = some (.int .i64 n.t)) := Lib.hid fun w' h' => ⟨cell_at (HR.out w' (grown_trans HG1.out h')) 0 _ rfl, cell_at (HR.out w' (grown_trans HG1.out h')) 2 _ rfl⟩
  go_region_held3 (fun w' => (w'.cell? ⟨w.heap.size, 0, none⟩ = some (.int .u8 n.k) ∧ w'.cell? ⟨w.heap.size, 2, none⟩ = some (.int .i64 n.t)) ∧ w1.grownBy w' none) (first | exact ⟨HK.out _ (grown_refl _ _), grown_refl _ _⟩ | exact ⟨HK.out _ (grown_drew (grown_refl _ _)), grown_drew (grown_refl _ _)⟩ | assumption | exact keep_gr HK (by assumption) (by assumption) | exact keep_gr HK (by assumption) (grown_drew (grown_refl _ _))) (first
      | (go_at_call 29; ((refine (HNT.out _).mono ?_); rintro e w9 ⟨rfl, rfl⟩))
      | (go_at_call 18; ((refine (HRM.out _ (grown_trans (grown_trans HG.out HG1.out) (And.right (by assumption : _ ∧ w1.grownBy _ none)))).mono ?_); rintro e w10 ⟨rfl, hg10⟩)))
  all_goals
    have HE : Hid ((w.alloc (.cells (na n) 37)).grownBy w10 none) := Lib.hid (grown_trans HG1.out (And.right (by assumption : _ ∧ w1.grownBy w10 none)))
    have HLE : Hid (w.heap.size < w10.drew.heap.size) := Lib.hid (by have := HE.out.size; simp at this; show w.heap.size < w10.heap.size; omega)
    have HB := Lib.hid (HH.out.grown (grown_trans HG.out (grown_drew HE.out)))
    obtain ⟨t', mm, HTT, hagg, hsize, hld⟩ := named
    have HX : Hid (∀ w', (w.alloc (.cells (na n) 37)).grownBy w' none → (loadCellsFrom ⟨w.heap.size, 0, none⟩ 0 mm #[]).run Tryd.prog w' = .ok (na n) w') := Lib.hid fun w' h => hld _ _ _ (HR.out w' h)
    have HPP := Lib.hid (HPU.out w10.drew (grown_trans HG.out (grown_drew HE.out)))
    clear HK
    go_wp2_with fail
    rw [HTT.out]
    refine wp_region_held_drew (S := fun w' => w'.cell? ⟨t, 9, none⟩ = some (.pointer (some ⟨p, 0, none⟩)) ∧ (loadCellsFrom ⟨w.heap.size, 0, none⟩ 0 mm #[]).run Tryd.prog w' = .ok (na n) w') (by kernel_rfl) ⟨HB.out.c9, HX.out _ (grown_drew HE.out)⟩ (fun hHeld => ?_)
    refine wpAnyH_take (i := 0) (oi := ⟨some 19, Op.move (Operand.tmp 0), _, _, _, _⟩) (v := ?v1) rfl (by kernel_rfl) (by kernel_rfl) (by kernel_rfl) (fun _ _ _ h => h) (Or.inl ⟨by rfl, ?hy1⟩) (by assumption) ?rest1
    case hy1 => ((intro w0 hSw; obtain ⟨hs1, hs2⟩ := hSw; go_simp); try (with_reducible rfl))
    try simp only [Act.put, List.setIfInBounds_toArray, List.set_cons_zero, List.set_cons_succ]
    refine wpAnyH_take (i := 1) (oi := ⟨some 20, Op.nilCheck (Operand.tmp 19), _, _, _, _⟩) (v := ?v2) rfl (by kernel_rfl) (by kernel_rfl) (by kernel_rfl) (fun _ _ _ h => h) (Or.inl ⟨by rfl, ?hy2⟩) (by assumption) ?rest2
    case hy2 => ((intro w0 hSw; obtain ⟨hs1, hs2⟩ := hSw; go_simp); try (with_reducible rfl))
    try simp only [Act.put, List.setIfInBounds_toArray, List.set_cons_zero, List.set_cons_succ]
    refine wpAnyH_take (i := 2) (oi := ⟨some 21, Op.fieldAddr 74 (Operand.tmp 20) 2, _, _, _, _⟩) (v := ?v3) rfl (by kernel_rfl) (by kernel_rfl) (by kernel_rfl) (fun _ _ _ h => h) (Or.inl ⟨by rfl, ?hy3⟩) (by assumption) ?rest3
    case hy3 => ((intro w0 hSw; obtain ⟨hs1, hs2⟩ := hSw; go_simp); try (with_reducible rfl))
    try simp only [Act.put, List.setIfInBounds_toArray, List.set_cons_zero, List.set_cons_succ]
    refine wpAnyH_take (i := 3) (oi := ⟨some 22, Op.load 70 (Operand.tmp 21), _, _, _, _⟩) (v := ?v4) rfl (by kernel_rfl) (by kernel_rfl) (by kernel_rfl) (fun _ _ _ h => h) (Or.inl ⟨by rfl, ?hy4⟩) (by assumption) ?rest4
    case hy4 => ((intro w0 hSw; obtain ⟨hs1, hs2⟩ := hSw; go_simp); try (with_reducible rfl))
    try simp only [Act.put, List.setIfInBounds_toArray, List.set_cons_zero, List.set_cons_succ]
    refine wpAnyH_take (i := 4) (oi := ⟨some 23, Op.load t' (Operand.tmp 3), _, _, _, _⟩) (v := ?v5) rfl (by kernel_rfl) (by kernel_rfl) (by kernel_rfl) (fun _ _ _ h => h) (Or.inl ⟨by rfl, ?hy5⟩) (by assumption) ?rest5
    case hy5 => ((intro w0 hSw; obtain ⟨hs1, hs2⟩ := hSw; go_simp); try (with_reducible rfl))
    try simp only [Act.put, List.setIfInBounds_toArray, List.set_cons_zero, List.set_cons_succ]
    refine wpAnyH_ready (rs := [5]) (by kernel_rfl) (by simp) ?_
    refine AllReadyH.cons (o := ⟨some 24, Op.call { callee := Callee.value (Operand.func 33), args := #[(Operand.tmp 22), (Operand.tmp 23)], argTypes := #[70, 37] }, _, _, _, _⟩) rfl (fun K hK => ?_) AllReadyH.nil
    go_simp
    (with_reducible refine HPP.out.mono ?_); rintro e w8 ⟨rfl, v', hP8, hT8⟩; have H8 := HB.out.put hP8 hT8 HI8.out; have HH8 := Lib.hid H8; have HT8 := Lib.hid hT8; have HX8 := Lib.hid (hld w.heap.size n w8 (range_turn hT8 (HR.out _ (grown_drew HE.out)) (by have := HLT.out; omega) (fun e => by have := HLV.out _ e.symm; omega) HLE.out)); clear hP8 hT8
    go_wp2_with fail
    refine hK.out _ _ ⟨H8.c9, HX8.out⟩ (fun hHeld => ?_)
    clear hK K
    try simp only [Act.put, List.setIfInBounds_toArray, List.set_cons_zero, List.set_cons_succ]
    refine wpAnyH_take (i := 6) (oi := ⟨some 4, Op.assign (Operand.tmp 24), _, _, _, _⟩) (v := ?v6) rfl (by kernel_rfl) (by kernel_rfl) (by kernel_rfl) (fun _ _ _ h => h) (Or.inl ⟨by rfl, ?hy6⟩) (by assumption) ?rest6
    case hy6 => ((intro w0 hSw; go_simp); try (with_reducible rfl))
    try simp only [Act.put, List.setIfInBounds_toArray, List.set_cons_zero, List.set_cons_succ]
    refine wpAnyH_done (by kernel_rfl) ?_ _
    go_wp2_with fail
    go_ret
    exact ⟨rfl, v', HH8.out, (NTurn.of_grown t p v (grown_trans HG.out (grown_drew HE.out))).trans (NTurn.of_turn t HT8.out)⟩
theorem nsend_any : Calls Tryd.prog 12 #[.pointer (some ⟨t, 0, none⟩), .agg (na n)] w fun e w' => e = .returned (.int .i64 (sendE c r ns n)) ∧ ∃ v', NetAt w' t p c r v' (sendN c r ns n) h ∧ NTurn w w' t p v v' := by
  unfold sendE sendN
  by_cases hf : fits c n
  · rw [if_pos hf]
    by_cases hr : many ns n.t (net n.k) < r
    · rw [if_pos hr, if_pos ⟨hf, hr⟩]; exact nsend_ok t p c r v ns h n w H hT hK hf hr
    · rw [if_neg hr, if_neg (fun e => hr e.2)]
      exact (nsend_full t p c r v ns h n w H hT hK hf hr).mono fun e w' he => ⟨he.1, v, H.grown he.2, NTurn.of_grown t p v he.2⟩
  · rw [if_neg hf, if_neg (fun e => hf e.1)]
    exact (nsend_bad t p c r v ns h n w H hT hK hf).mono fun e w' he => ⟨he.1, v, H.grown he.2, NTurn.of_grown t p v he.2⟩
end
end Go.Proofs.YtoemkhmbeiindaaDoor.tt
