/-
  took takes a note, and strikes it off those that were sent: a contract. Condition: the tables of bounds and of kinds lie in their variables as the program's text has them.
-/
import Derived.Test.YtoemkhmbeiindaaDoorGb
import Derived.Test.YtoemkhmbeiindaaDoorWb
namespace Go.Proofs.YtoemkhmbeiindaaDoor.tt
open Go Go.ChangeShapes Go.WideShapes Go.ChangeAt Go.RowKit Go.Shelf
set_option linter.unusedVariables false

/-- A place out of any number. -/
theorem place_of (pl : Int) (q : Nat) (hq : 0 < q) (h : q ≤ 65536) : ∃ kk : Nat, kk < q ∧ (wrap64 (pl.tmod (q : Int) + (q : Int))).tmod (q : Int) = (kk : Int) := by
  have hp : (0 : Int) < (q : Int) := by omega
  have h1 := Int.tmod_lt_of_pos pl hp
  have h2 := Int.lt_tmod_of_pos pl hp
  have hw : wrap64 (pl.tmod (q : Int) + (q : Int)) = pl.tmod (q : Int) + (q : Int) := by
    unfold wrap64; omega
  rw [hw]
  have h3 := Int.tmod_nonneg (q : Int) (show (0 : Int) ≤ pl.tmod (q : Int) + (q : Int) by omega)
  have h4 := Int.tmod_lt_of_pos (pl.tmod (q : Int) + (q : Int)) hp
  exact ⟨((pl.tmod (q : Int) + (q : Int)).tmod (q : Int)).toNat, by omega, by omega⟩

/-- A net, and a slice of notes beside it. -/
structure Beside (w0 w : World) (v u : Value) (xs : List Nt) : Prop where
  sl : NSl w u xs
  new : ∀ k, u.ownBlock = some k → w0.heap.size ≤ k
  apart : ∀ k, u.ownBlock = some k → some k ≠ v.ownBlock
section
variable {w0 w w' : World} {t p r : Nat} {c : Cfg} {v v' u u' : Value} {ns ns' xs ys : List Nt} {h h' : Int}
theorem Beside.nil (w0 w : World) (v : Value) : Beside w0 w v (.slice none 0 0) [] := ⟨Sl.nil _ _ _, by simp [Value.ownBlock], by simp [Value.ownBlock]⟩
theorem Beside.grown (S : Beside w0 w v u xs) (hg : w.grownBy w' none) : Beside w0 w' v u xs := ⟨S.sl.grown hg, S.new, S.apart⟩
theorem Beside.turn (S : Beside w0 w v u xs) (H : NetAt w t p c r v ns h) (hT : NTurn w w' t p v v') : Beside w0 w' v' u xs :=
  ⟨S.sl.of_block fun g hg => by
    obtain ⟨cur, hc⟩ := S.sl.type g hg
    exact hT.block g (S.sl.lt g hg) (tyne hc H.blk (by decide)) (tyne hc H.pool.blk (by decide)) (S.apart g hg), S.new, fun k hk => hT.next.ne (S.sl.lt k hk) (S.apart k hk)⟩
/-- What is appended to the slice leaves the net alone. -/
theorem Own.append (H : Own w0 w t p c r v ns h) (S : Beside w0 w v u xs) (hg : w.grownBy w' u.ownBlock) : Own w0 w' t p c r v ns h := by
  refine H.beside hg S.new (fun e => ?_) (fun e => ?_) (fun k hk e => S.apart k e.symm hk.symm)
  · obtain ⟨cur, hc⟩ := S.sl.type _ e.symm
    exact tyne hc H.net.blk (by decide) rfl
  · obtain ⟨cur, hc⟩ := S.sl.type _ e.symm
    exact tyne hc H.net.pool.blk (by decide) rfl
theorem Beside.next (S : Beside w0 w v u xs) (H : Own w0 w t p c r v ns h) (hn : Next w w' u u') (h' : NSl w' u' ys) : Beside w0 w' v u' ys :=
  ⟨h', hn.ge H.old.size S.new, fun k hk => by
    rcases hn with e | e
    · exact S.apart k (e ▸ hk)
    · intro e'
      have := e k hk
      have := H.net.pool.sl.lt k e'.symm
      omega⟩
end

set_option maxRecDepth 1000000 in
set_option maxHeartbeats 2000000 in
theorem took_any (w0 : World) (t p r : Nat) (c : Cfg) (v u : Value) (ns : List Nt) (h : Int) (pl : Int) (w : World) (H : Own w0 w t p c r v ns h) (S : Beside w0 w v u ns) (h1 : 0 < ns.length) (h2 : 0 ≤ h) (h3 : h ≤ 1000000000) :
    Calls Tryd.prog 27 #[.pointer (some ⟨t, 0, none⟩), u, .int .i64 pl] w fun e w' => ∃ k x u' v', ns[k]? = some x ∧ e = .returned (.tuple #[u', .int .i64 0]) ∧ Own w0 w' t p c r v' (ns.eraseIdx k) (h + far x) ∧ Beside w0 w' v' u' (ns.eraseIdx k) := by
  obtain ⟨i0, hi, hz0, hz1, hz2⟩ := info_parts infoN
  have hlen := len_64k H.net.inv
  have HLE : Hid (∀ n, Calls Tryd.prog 17 _ (w.drewN n) _) := Lib.hid fun n => own_len (H.grown (grown_drewN (grown_refl _ none) n))
  obtain ⟨q, hq⟩ : ∃ q, q = ns.length := ⟨_, rfl⟩
  have HQ := Lib.hid hq
  rw [← hq] at HLE h1 hlen
  have hq1 : ((q : Int) == 0) = false := by simp; omega
  have hq2 : ¬ (q : Int) = 0 := by omega
  obtain ⟨k, hk, hix⟩ := place_of pl q h1 hlen
  obtain ⟨x, hx⟩ : ∃ x, ns[k]? = some x := ⟨_, List.getElem?_eq_getElem (by omega)⟩
  have HIX := Lib.hid hix
  have HX := Lib.hid hx
  have HT : Hid (∀ w' (H' : Own w0 w' t p c r v ns h), Calls Tryd.prog 14 #[.pointer (some ⟨t, 0, none⟩), .int .i64 (k : Int)] w' _) := Lib.hid fun w' H' => own_take H' k x hx h2 h3
  have HK := Lib.hid hk
  have HL := Lib.hid hlen
  have HH := Lib.hid H
  have HS := Lib.hid S
  obtain ⟨ad, cap, rfl⟩ := S.sl.form
  rw [← hq] at HS ⊢
  clear H S hlen hq h2 h3 hix hx hk
  have h1' := h1
  clear h1
  go_enter Tryd.func27, Tryd.ntmps27
  go_wp2_with fail
  go_quiet ((go_at_call 17; exact Calls.quiet_of_same ((HLE.out _).mono fun _ _ he => ⟨he.1, he.2.symm⟩)))
  rw [HIX.out]
  have H1 := Lib.hid (HH.out.grown (grown_drewN (grown_refl w none) nq))
  have S1 := Lib.hid (HS.out.grown (grown_drewN (grown_refl w none) nq))
  go_wp2_with (first
    | (go_at_call 14; ((with_reducible refine (HT.out _ H1.out).mono ?_); rintro e w3 ⟨rfl, v3, ho3, ht3⟩; have H3 := Lib.hid ho3; have S3 := Lib.hid (S1.out.turn H1.out.net ht3); clear ho3 ht3))
    | ((with_reducible refine store_new x _ _ _ ?_ ?_ ?_ ?_); (rfl); (rfl); (rfl)))
  obtain ⟨wb, hwb⟩ : ∃ wb, w3.alloc (.cells (na x) 37) = wb := ⟨_, rfl⟩
  have hgb : w3.grownBy wb none := hwb ▸ grown_alloc (grown_refl _ _) _
  have hr : wb.rangeAt w3.heap.size 0 (nt x) := range_of (hwb ▸ heap_alloc_new w3 (.cells (na x) 37))
  have HB := Lib.hid (H3.out.grown hgb)
  have SB := Lib.hid (S3.out.grown hgb)
  rw [hwb]
  obtain ⟨g, off, had, hqe, hr2⟩ := nsl_at SB.out.sl k x HX.out
  clear hqe
  subst had
  obtain ⟨t', mm, HTT, hagg, hsize, hld⟩ := namedO
  have hl1 : ∀ n, (loadCellsFrom ⟨w3.heap.size, 0, none⟩ 0 mm #[]).run Tryd.prog (wb.drewN n) = .ok (na x) (wb.drewN n) := fun n => hld _ _ x _ (range_grown hr (grown_drewN (grown_refl _ none) n) (by simp))
  have hl2 : ∀ n, (loadCellsFrom ⟨g, off + k * 24, none⟩ 0 mm #[]).run Tryd.prog (wb.drewN n) = .ok (na x) (wb.drewN n) := fun n => hld _ _ x _ (range_grown hr2 (grown_drewN (grown_refl _ none) n) (by simp))
  have hqn : ∀ w, (binOp .neq 37 (.agg (na x)) (.agg (na x))).run Tryd.prog w = .ok (.bool false) w := fun w => by rw [q31n, decide_eq_true rfl]; rfl
  have hkq := HK.out
  have hkd : decide ((q : Int) ≤ (k : Int)) = false := by simp; omega
  clear hgb hr hr2 hld hwb
  rw [HTT.out]
  go_quiet (fail)
  go_wp2_with fail
  obtain ⟨wc, hwc⟩ : ∃ wc, wb.drewN nq = wc := ⟨_, rfl⟩
  have H5 : Hid (Own w0 wc.drew _ _ _ _ _ _ _) := Lib.hid (hwc ▸ HB.out.grown (grown_drew (grown_drewN (grown_refl wb none) nq)))
  have S5 : Hid (Beside w0 wc.drew _ _ _) := Lib.hid (hwc ▸ SB.out.grown (grown_drew (grown_drewN (grown_refl wb none) nq)))
  rw [hwc]
  clear hwc
  have hsl : Sl wc.drew 37 24 (.slice (some ⟨g, off, none⟩) q cap) ns.length (flat nt ns) := S5.out.sl
  rw [← HQ.out] at hsl
  obtain ⟨hcap, hqc⟩ : cap ≤ 9223372036854775807 ∧ q ≤ cap := by
    rcases hsl with ⟨h, _⟩ | ⟨g', off', cap', cur, h, hb, h1, h2, h3, h4, h5⟩
    · cases h
    · cases h; unfold maxLen at h3; exact ⟨by omega, h2⟩
  obtain ⟨A, hA, hsrc, _, hAg⟩ := tail_sl (P := Tryd.prog) hsl (k + 1) (by omega) Tryd.underlying50 (nflat_one ns)
  have hhd := head_sl hsl k (by omega) k (Nat.le_refl _) (by omega)
  have hkc : k ≤ cap := by omega
  have hkc1 : k + 1 ≤ cap := by omega
  have hkl1 : k + 1 ≤ q := by omega
  have HSS := Lib.hid hsrc
  have HHD := Lib.hid hhd
  have HE := Lib.hid (flat_erase nt_len ns k (by rw [← HQ.out]; exact hkq))
  have HKK : Hid (k + (q - (k + 1)) ≤ 65536) := Lib.hid (by have := HL.out; omega)
  have HNN : Hid ((ns.eraseIdx k).length = k + (q - (k + 1))) := Lib.hid (by rw [List.length_eraseIdx_of_lt (by rw [← HQ.out]; exact hkq), ← HQ.out]; omega)
  have hlq := HL.out
  have hw : IntKind.i64.wrap ((k : Int) + 1) = ((k : Int) + 1) := by simp [IntKind.wrap, IntKind.bits, IntKind.signed]; omega
  have ht : ((k : Int) + 1).toNat = k + 1 := by omega
  have hk1 : 0 ≤ (k : Int) + 1 := by omega
  have hk2 : (k : Int) + 1 ≤ (q : Int) := by omega
  clear hsl hsrc hhd hAg hl1 hl2 hqn hlq
  refine wp_region_held_drew (S := fun _ => True) (by kernel_rfl) trivial (fun hHeld => ?_)
  refine wpAnyH_take (i := 0) (oi := ⟨some 43, Op.move (Operand.tmp 1), _, _, _, _⟩) (v := ?v1) rfl (by kernel_rfl) (by kernel_rfl) (by kernel_rfl) (fun _ _ _ h => h) (Or.inl ⟨by rfl, ?hy1⟩) (by assumption) ?rest1
  case hy1 => ((intro w0 hSw; go_simp); try (with_reducible rfl))
  try simp only [Act.put, List.setIfInBounds_toArray, List.set_cons_zero, List.set_cons_succ]
  refine wpAnyH_take (i := 1) (oi := ⟨some 44, Op.move (Operand.tmp 8), _, _, _, _⟩) (v := ?v2) rfl (by kernel_rfl) (by kernel_rfl) (by kernel_rfl) (fun _ _ _ h => h) (Or.inl ⟨by rfl, ?hy2⟩) (by assumption) ?rest2
  case hy2 => ((intro w0 hSw; go_simp); try (with_reducible rfl))
  try simp only [Act.put, List.setIfInBounds_toArray, List.set_cons_zero, List.set_cons_succ]
  refine wpAnyH_take (i := 2) (oi := ⟨some 45, Op.move (Operand.tmp 8), _, _, _, _⟩) (v := ?v3) rfl (by kernel_rfl) (by kernel_rfl) (by kernel_rfl) (fun _ _ _ h => h) (Or.inl ⟨by rfl, ?hy3⟩) (by assumption) ?rest3
  case hy3 => ((intro w0 hSw; go_simp); try (with_reducible rfl))
  try simp only [Act.put, List.setIfInBounds_toArray, List.set_cons_zero, List.set_cons_succ]
  refine wpAnyH_take (i := 3) (oi := ⟨some 46, Op.slice 50 (Operand.tmp 43) none (some (Operand.tmp 44)) (some (Operand.tmp 45)), _, _, _, _⟩) (v := ?v4) rfl (by kernel_rfl) (by kernel_rfl) (by kernel_rfl) (fun _ _ _ h => h) (Or.inl ⟨by rfl, ?hy4⟩) (by assumption) ?rest4
  case hy4 => ((intro w0 hSw; go_simp); try (with_reducible rfl))
  try simp only [Act.put, List.setIfInBounds_toArray, List.set_cons_zero, List.set_cons_succ]
  refine wpAnyH_take (i := 4) (oi := ⟨some 47, Op.move (Operand.tmp 1), _, _, _, _⟩) (v := ?v5) rfl (by kernel_rfl) (by kernel_rfl) (by kernel_rfl) (fun _ _ _ h => h) (Or.inl ⟨by rfl, ?hy5⟩) (by assumption) ?rest5
  case hy5 => ((intro w0 hSw; go_simp); try (with_reducible rfl))
  try simp only [Act.put, List.setIfInBounds_toArray, List.set_cons_zero, List.set_cons_succ]
  refine wpAnyH_take (i := 5) (oi := ⟨some 48, Op.move (Operand.tmp 8), _, _, _, _⟩) (v := ?v6) rfl (by kernel_rfl) (by kernel_rfl) (by kernel_rfl) (fun _ _ _ h => h) (Or.inl ⟨by rfl, ?hy6⟩) (by assumption) ?rest6
  case hy6 => ((intro w0 hSw; go_simp); try (with_reducible rfl))
  try simp only [Act.put, List.setIfInBounds_toArray, List.set_cons_zero, List.set_cons_succ]
  refine wpAnyH_take (i := 6) (oi := ⟨some 49, Op.binOp BinOp.add 3 (Operand.tmp 48) (Operand.const (Value.int IntKind.i64 1)) 3, _, _, _, _⟩) (v := ?v7) rfl (by kernel_rfl) (by kernel_rfl) (by kernel_rfl) (fun _ _ _ h => h) (Or.inl ⟨by rfl, ?hy7⟩) (by assumption) ?rest7
  case hy7 => ((intro w0 hSw; go_simp); try (with_reducible rfl))
  try simp only [Act.put, List.setIfInBounds_toArray, List.set_cons_zero, List.set_cons_succ]
  refine wpAnyH_take (i := 7) (oi := ⟨some 50, Op.slice 50 (Operand.tmp 47) (some (Operand.tmp 49)) none none, _, _, _, _⟩) (v := ?v8) rfl (by kernel_rfl) (by kernel_rfl) (by kernel_rfl) (fun _ _ _ h => h) (Or.inl ⟨by rfl, ?hy8⟩) (by assumption) ?rest8
  case hy8 => ((intro w0 hSw; go_simp); try (with_reducible rfl))
  try simp only [Act.put, List.setIfInBounds_toArray, List.set_cons_zero, List.set_cons_succ]
  refine wpAnyH_ready (rs := [8]) (by kernel_rfl) (by simp) ?_
  refine AllReadyH.cons (o := ⟨some 51, Op.call { callee := Callee.builtin Builtin.append, args := #[(Operand.tmp 46), (Operand.tmp 50)], argTypes := #[50, 50] }, _, _, _, _⟩) rfl (fun K hK => ?_) AllReadyH.nil
  refine step_append_sl rfl (.tmp 46) (.tmp 50) 50 50 rfl 37 24 i0 (.agg (na zn)) 112 Tryd.underlying50 hi hz0 hz1 hz2 zn_cells (.slice (some ⟨g, off, none⟩) k k) k ((flat nt ns).take (k * 24)) rfl HHD.out _ _ HSS.out (by have := HKK.out; unfold maxLen; omega) (by have := HKK.out; omega) ?_
  intro u9 w9 hsl9 hgr9 hnx9; have HSL9 := Lib.hid hsl9; have HGR9 := Lib.hid hgr9; have HNX9 := Lib.hid hnx9; clear hgr9 hnx9; obtain ⟨ad9, cap9, rfl⟩ := hsl9.form; clear hsl9
  refine hK.out _ _ trivial (fun hHeld => ?_)
  clear hK K
  try simp only [Act.put, List.setIfInBounds_toArray, List.set_cons_zero, List.set_cons_succ]
  refine wpAnyH_take (i := 9) (oi := ⟨some 6, Op.assign (Operand.tmp 51), _, _, _, _⟩) (v := ?v9) rfl (by kernel_rfl) (by kernel_rfl) (by kernel_rfl) (fun _ _ _ h => h) (Or.inl ⟨by rfl, ?hy9⟩) (by assumption) ?rest9
  case hy9 => ((intro w0 hSw; go_simp); try (with_reducible rfl))
  try simp only [Act.put, List.setIfInBounds_toArray, List.set_cons_zero, List.set_cons_succ]
  refine wpAnyH_take (i := 10) (oi := ⟨some 7, Op.assign (Operand.const (Value.int IntKind.i64 0)), _, _, _, _⟩) (v := ?v10) rfl (by kernel_rfl) (by kernel_rfl) (by kernel_rfl) (fun _ _ _ h => h) (Or.inl ⟨by rfl, ?hy10⟩) (by assumption) ?rest10
  case hy10 => ((intro w0 hSw; go_simp); try (with_reducible rfl))
  try simp only [Act.put, List.setIfInBounds_toArray, List.set_cons_zero, List.set_cons_succ]
  refine wpAnyH_done (by kernel_rfl) ?_ _
  go_wp2_with fail
  go_ret2
  have hsl9 := HSL9.out
  rw [HE.out, ← HNN.out] at hsl9
  refine ⟨k, x, _, v3, HX.out, rfl, H5.out.append S5.out HGR9.out, S5.out.next H5.out ?_ (by rw [← HNN.out]; exact hsl9)⟩
  exact HNX9.out
end Go.Proofs.YtoemkhmbeiindaaDoor.tt
