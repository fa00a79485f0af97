/-
  The law BacksKeep returns true: the walk. Condition: the table of bounds lies in its variable as the program's text has it; that the script lies where the argument says.
-/
import Derived.Test.YtoifeinkaaclmaaDoorBkH
namespace Go.Proofs.YtoifeinkaaclmaaDoor.bk
open Go Go.ChangeShapes Go.WideShapes Go.ChangeAt Go.RowKit
open Go.Proofs.YtoifeinkaaclmaaDoor.tt (Cfg Tab CfgAt cfg_at hb_bounds data_yes eql29k U zd row tyne add_lit lt_of range_grown grown_setCells grown_setRow grown_new grown_drewN below_of grown_alloc grown_refl grown_trans grown_drew Sl Pool Turn Next flat)
set_option linter.unusedVariables false
set_option maxRecDepth 1000000

/-- The blocks are data blocks. -/
def Rg (n : Int) (ns : List Bk) : Prop := ∀ x ∈ ns, 0 ≤ x.b ∧ x.b < n
theorem rg_rem {n : Int} {ns : List Bk} (b : Int) (h : Rg n ns) : Rg n (rem ns b) := fun x hx => h x (mem_rem hx)
theorem rg_kills {n : Int} {ns : List Bk} (b : Int) (h : Rg n ns) : Rg n (kills ns b) := by
  unfold kills
  cases hl : look ns b with
  | none => exact h
  | some x =>
    intro y hy
    rcases List.mem_append.1 hy with hy | hy
    · exact rg_rem b h y hy
    · simp at hy; subst hy; exact h x (look_mem hl)
theorem rg_puts {n : Int} {m : Nat} {ns : List Bk} (b : Int) (d : List Int) (hd : d.length = 16) (h : Rg n ns) : Rg n (puts n m ns b d hd) := by
  unfold puts
  by_cases h0 : putE n m ns b = 0
  · rw [if_pos h0]
    intro y hy
    rcases List.mem_append.1 hy with hy | hy
    · exact h y hy
    · simp at hy; subst hy; exact (putE_zero.1 h0).1
  · rw [if_neg h0]; exact h
theorem putE_there {n : Int} {m : Nat} {ns : List Bk} {b : Int} (h : Rg n ns) (hl : (look ns b).isSome = true) : putE n m ns b = 8 := by
  obtain ⟨x, hx⟩ := Option.isSome_iff_exists.1 hl
  have h1 := h x (look_mem hx)
  rw [look_b hx] at h1
  unfold putE
  rw [if_neg (by omega), if_pos hl]
theorem fd_dead (o : Option Bk) : fd (o.map dead) = fd o := by cases o <;> rfl
theorem fl_dead (o : Option Bk) : fl (o.map dead) = false := by cases o <;> rfl
theorem some_dead (o : Option Bk) : (o.map dead).isSome = o.isSome := by cases o <;> rfl
/-- The row that a law puts. -/
def dx (x : Int) : List Int := [0, 0, 0, x, 0, 0, 0, 0, 0, 0, 0, 0, 0, 0, 0, 0]
theorem dx_len (x : Int) : (dx x).length = 16 := rfl
theorem dx_row (x : Int) : row (dx x) = #[.int .u32 0, .int .u32 0, .int .u32 0, .int .u32 x, .int .u32 0, .int .u32 0, .int .u32 0, .int .u32 0, .int .u32 0, .int .u32 0, .int .u32 0, .int .u32 0, .int .u32 0, .int .u32 0, .int .u32 0, .int .u32 0] := rfl
abbrev Want (w : World) (g : Nat) (d : List Int) : Prop := w.heap[g]? = some (.cells (row d) 33 (0, 0))
section
variable {w w1 w2 : World} {t p : Nat} {v v' : Value} {n : Int} {m : Nat} {ns : List Bk}
/-- A variable of another kind is left alone. -/
theorem Own.aside (h : Own w w1 t p v n m ns) (hT : Turn w1 w2 p v v') {g : Nat} {cs : Array Value} {ty : TypeId} (hg : w1.heap[g]? = some (.cells cs ty (0, 0))) (h1 : ty ≠ 79) (h2 : ty ≠ 57) : w2.heap[g]? = some (.cells cs ty (0, 0)) :=
  (hT.block g (lt_of hg) (tyne hg h.bk.pool.blk h1) (fun e => by
    obtain ⟨cur, hc⟩ := h.bk.pool.sl.type _ e.symm
    exact tyne hg hc h2 rfl)).trans hg
theorem Own.setRow (h : Own w w1 t p v n m ns) {g : Nat} {cs : Array Value} (hg : w1.heap[g]? = some (.cells cs 33 (0, 0))) (hw : w.heap.size ≤ g) (A : Array Value) : Own w (w1.setRow g A) t p v n m ns := by
  refine ⟨h.bk.of_block (setRow_other _ _ _ _ (tyne h.bk.blk hg (by decide))) (setRow_other _ _ _ _ (tyne h.bk.pool.blk hg (by decide))) (fun k e => ?_), grown_setRow h.old g hw A, h.hp, h.hv⟩
  obtain ⟨cur, hc⟩ := h.bk.pool.sl.type _ e
  exact setRow_other _ _ _ _ (tyne hc hg (by decide))
end
section
variable {w : World} {ops : Array Oper} {rest : List Oper} {a : Act} {Q : Exit → Act → World → Prop} {dst : Option Tmp} {ty : TypeId} {pos : String} {after : Array Edge}
theorem store_rownS (d : List Int) (hd : d.length = 16) (A c : Array Value) (hA : row d = A) (x y : Tmp) (g : Nat) (hg : g = w.heap.size) (hx : a.eval (.tmp x) = .pointer (some ⟨g, 0, none⟩)) (hy : a.eval (.tmp y) = .agg A) (hc : c.size = 16)
    (h : wpList Tryd.prog ops Q rest (a.put dst undef) (w.alloc (.cells (row d) 33))) : wpList Tryd.prog ops Q (⟨dst, .store 33 (.tmp x) (.tmp y), ty, pos, after, none⟩ :: rest) a (w.alloc (.cells c 33)) := by
  subst hg; exact store_rown d hd A c hA x y hx hy hc h
end
theorem eqD (D : List Int) (h : D.length = 16) (w : World) : (Op.equalIn 10000 33 (.agg (row D)) (.agg (row D))).run Tryd.prog w = .ok true w := by
  rw [eql29k D D h h w]; simp
set_option maxHeartbeats 1000000 in
theorem keep_long (c : Cfg) (ad : Option Addr) (len cap : Nat) (block : Int) (w : World) (hT : Tab w) (h : 300 < len) : Calls Tryd.prog 5 #[.agg c.cells, .slice ad len cap, .int .i64 block] w fun e w' => e = .returned (.bool true) ∧ w.grownBy w' none := by
  have hd : decide ((300 : Int) < (len : Int)) = true := by simp; omega
  have hg0 : w.grownBy (w.alloc (.cells c.cells 27)) none := grown_alloc (grown_refl _ _) _
  have HW := Lib.hid (works_any _ (hT.grown hg0))
  have HG0 := Lib.hid hg0
  clear hT h hg0
  unfold Cfg.cells at *
  go_enter Tryd.func5, Tryd.ntmps5
  go_wp2_with (go_at_call 10; ((with_reducible refine HW.out.mono ?_); rintro e w3 ⟨rfl, hg3⟩; have HG3 := Lib.hid hg3; clear hg3))
  go_ret
  exact ⟨rfl, grown_trans HG0.out HG3.out⟩
set_option maxHeartbeats 1000000 in
theorem keep_no (c : Cfg) (ad : Option Addr) (len cap : Nat) (block : Int) (w : World) (hT : Tab w) (h : len ≤ 300) (hm : ¬ c.may) : Calls Tryd.prog 5 #[.agg c.cells, .slice ad len cap, .int .i64 block] w fun e w' => e = .returned (.bool true) ∧ w.grownBy w' none := by
  have hd : decide ((300 : Int) < (len : Int)) = false := by simp; omega
  have hg0 : w.grownBy (w.alloc (.cells c.cells 27)) none := grown_alloc (grown_refl _ _) _
  have HN := Lib.hid (new_no c _ (hT.grown hg0) hm)
  have HW : Hid (∀ w', w.grownBy w' none → _) := Lib.hid (fun w' h => works_any w' (hT.grown h))
  obtain ⟨c0, c1, c2, c3, c4, c5, c6, c7⟩ := cfg_at w c
  have HG0 := Lib.hid hg0
  clear hT h hm hg0
  unfold Cfg.cells at HN HG0 c0 c1 c2 c3 c4 c5 c6 c7 ⊢
  go_enter Tryd.func5, Tryd.ntmps5
  go_wp2_with (first
    | (go_at_call 8; ((with_reducible refine HN.out.mono ?_); rintro e w2 ⟨rfl, hg2⟩; have HG2 := Lib.hid (grown_trans HG0.out hg2); clear hg2))
    | (go_at_call 10; ((with_reducible refine (HW.out _ HG2.out).mono ?_); rintro e w3 ⟨rfl, hg3⟩; have HG3 := Lib.hid (grown_trans HG2.out hg3); clear hg3)))
  go_ret
  exact ⟨rfl, HG3.out⟩
theorem putx {w w1 : World} {t p : Nat} {v : Value} {n : Int} {m : Nat} {ns : List Bk} (h : Own w w1 t p v n m ns) (b x : Int) : Calls Tryd.prog 11 #[.pointer (some ⟨t, 0, none⟩), .int .i64 b, .agg (row (dx x))] w1 fun e w2 => e = .returned (.int .i64 (putE n m ns b)) ∧ ∃ v', Own w w2 t p v' n m (puts n m ns b (dx x) (dx_len x)) ∧ Turn w1 w2 p v v' := own_put h b (dx x) (dx_len x)
set_option maxHeartbeats 16000000 in
theorem keep_some (c : Cfg) (os : List OpX) (ad : Option Addr) (len cap : Nat) (block : Int) (w : World) (hT : Tab w) (hlen : len = os.length) (hat : OpsAt w ad os) (h : len ≤ 300) (hm : c.may) : Calls Tryd.prog 5 #[.agg c.cells, .slice ad len cap, .int .i64 block] w fun e w' => e = .returned (.bool true) ∧ w.grownBy w' none := by
  obtain ⟨m, hba, hm1, hm4⟩ := may_ba hm
  have hd : decide ((300 : Int) < (len : Int)) = false := by simp; omega
  have hg0 : w.grownBy (w.alloc (.cells c.cells 27)) none := grown_alloc (grown_refl _ _) _
  have HN := Lib.hid (own_new c m _ (hT.grown hg0) hm hba hm1 (by omega))
  have HW : Hid (∀ w', w.grownBy w' none → _) := Lib.hid (fun w' h => works_any w' (hT.grown h))
  obtain ⟨c0, c1, c2, c3, c4, c5, c6, c7⟩ := cfg_at w c
  have HG0 := Lib.hid hg0
  have HLEN := Lib.hid hlen
  have H300 := Lib.hid h
  have HAT := Lib.hid (fun w' (h : w.grownBy w' none) => hat.grown h)
  clear hT hm hba hm1 hm4 hg0 hlen hat h
  unfold Cfg.cells at HN HG0 c0 c1 c2 c3 c4 c5 c6 c7 ⊢
  go_enter Tryd.func5, Tryd.ntmps5
  go_wp2_with (go_at_call 8; ((with_reducible refine HN.out.mono ?_); rintro e w2 ⟨t, p, rfl, ho2⟩; have H2 := Lib.hid ho2; clear ho2 c0 c1 c2 c3 c4 c5 c6 c7))
  clear HN
  obtain ⟨wb, hwb⟩ : ∃ wb, w.alloc (.cells #[.int .i64 c.co, .int .i64 c.se, .int .i64 c.wa, .int .i64 c.bl, .int .i64 c.lo, .int .i64 c.ba, .int .i64 c.ne, .int .i64 c.tr] 27) = wb := ⟨_, rfl⟩
  rw [hwb] at H2 HG0
  have HAT := Lib.hid fun (w' : World) (h : wb.grownBy w' none) => HAT.out w' (grown_trans HG0.out h)
  have HW := Lib.hid fun (w' : World) (h : wb.grownBy w' none) => HW.out w' (grown_trans HG0.out h)
  have HFIN := Lib.hid fun (w' : World) (h : wb.grownBy w' none) => grown_trans HG0.out h
  clear hwb HG0
  obtain ⟨g9, hg9⟩ : ∃ g, g = w2.heap.size := ⟨_, rfl⟩
  have HG9 : Hid (wb.heap.size ≤ g9) := Lib.hid (by rw [hg9]; exact H2.out.old.size)
  have H3 := Lib.hid (H2.out.grown (w2 := w2.alloc (.cells (row zd) 33)) (grown_alloc (grown_refl _ _) _))
  have HN3 : Hid (Want (w2.alloc (.cells (row zd) 33)) g9 zd) := Lib.hid (by rw [hg9]; exact heap_alloc_new _ _)
  rw [← hg9]
  clear hg9 H2
  go_loopw [34, 10, 11] (fun i a b wr => ∃ (j : Nat) (v : Value) (ns : List Bk), j ≤ len ∧ i = .int .i64 (j : Int) ∧ a = .bool (look ns block).isSome ∧ b = .bool (fl (look ns block)) ∧ Own wb wr t p v c.data m ns ∧ (Nd ns ∧ Rg c.data ns) ∧ Want wr g9 (fd (look ns block))) (fun i _ _ _ => len - (intOf i).toNat)
  case atStart => exact ⟨0, _, [], Nat.zero_le _, rfl, rfl, rfl, H3.out, ⟨nd_nil, fun x hx => by cases hx⟩, HN3.out⟩
  case round =>
    clear H3 HN3
    obtain ⟨j, v, ns, hj, rfl, rfl, rfl, ho, hi, hn⟩ := hrel
    have HO := Lib.hid ho
    have HI := Lib.hid hi
    have hj300 : j ≤ 300 := by have := H300.out; omega
    obtain ⟨IS, hIS⟩ : ∃ IS, IS = (look ns block).isSome := ⟨_, rfl⟩
    obtain ⟨FL, hFL⟩ : ∃ FL, FL = fl (look ns block) := ⟨_, rfl⟩
    obtain ⟨DD, hDD⟩ : ∃ DD, DD = fd (look ns block) := ⟨_, rfl⟩
    rw [← hIS, ← hFL]
    have HN : Hid (Want wr g9 DD) := Lib.hid (by rw [hDD]; exact hn)
    have HDL : Hid (DD.length = 16) := Lib.hid (by rw [hDD]; exact fd_len _)
    have HIS := Lib.hid hIS
    have HFL := Lib.hid hFL
    have HDD := Lib.hid hDD
    clear ho hi hn hIS hFL hDD
    by_cases hlt : j < len
    · obtain ⟨⟨kd, b, x⟩, hq⟩ : ∃ q, os[j]? = some q := ⟨_, List.getElem?_eq_getElem (by have := HLEN.out; omega)⟩
      obtain ⟨bp, op, rfl, hr0, hr1, hr2⟩ := HAT.out _ HO.out.old j _ hq
      clear hq
      dsimp only at hr0 hr1 hr2
      by_cases hbb : b = block
      · subst hbb
        by_cases hk0 : kd = 0
        · subst hk0
          by_cases h3 : (look ns b).isSome = true
          · obtain rfl : IS = true := HIS.out.trans h3
            have hE8 : putE c.data m ns b = 8 := putE_there HI.out.2 h3
            obtain ⟨NS, hNS⟩ : ∃ NS, NS = puts c.data m ns b (dx x) (dx_len x) := ⟨_, rfl⟩
            have HINV : Hid (Nd NS ∧ Rg c.data NS) := Lib.hid (by rw [hNS]; exact ⟨nd_puts _ _ _ _ _ HI.out.1, rg_puts _ _ _ HI.out.2⟩)
            have R1 : Hid ((look NS b).isSome = true) := Lib.hid (by rw [hNS]; rw [look_puts, if_neg (fun e => by rw [hE8] at e; exact absurd e.1 (by decide))]; exact h3)
            have R2 : Hid (fl (look NS b) = FL) := Lib.hid (by rw [hNS]; rw [look_puts, if_neg (fun e => by rw [hE8] at e; exact absurd e.1 (by decide))]; exact HFL.out.symm)
            have R3 : Hid (fd (look NS b) = DD) := Lib.hid (by rw [hNS]; rw [look_puts, if_neg (fun e => by rw [hE8] at e; exact absurd e.1 (by decide))]; exact HDD.out.symm)
            have HFI : Hid (∀ (v' : Value) (W : World), Own wb W t p v' c.data m NS → _) := Lib.hid fun v' W h => own_find h b
            rw [R1.out, R2.out, R3.out] at HFI
            have HX2 : Hid (wr.grownBy ((wr.alloc (.cells #[.int .i64 0, .int .i64 b, .int .u32 x] 44)).alloc (.cells (row (dx x)) 33)) none) := Lib.hid (grown_alloc (grown_alloc (grown_refl _ _) _) _)
            have HO2 := Lib.hid (HO.out.grown HX2.out)
            have HQ2 : Hid (((wr.alloc (.cells #[.int .i64 0, .int .i64 b, .int .u32 x] 44)).alloc (.cells (row (dx x)) 33)).heap[wr.heap.size]? = some (.cells #[.int .i64 0, .int .i64 b, .int .u32 x] 44 (0, 0))) := Lib.hid ((Below.heap_alloc _ _ _ (by simp)).trans (heap_alloc_new _ _))
            have HD2 : Hid (((wr.alloc (.cells #[.int .i64 0, .int .i64 b, .int .u32 x] 44)).alloc (.cells (row (dx x)) 33)).heap[wr.heap.size + 1]? = some (.cells (row (dx x)) 33 (0, 0))) := Lib.hid (by have h := heap_alloc_new (wr.alloc (.cells #[.int .i64 0, .int .i64 b, .int .u32 x] 44)) (.cells (row (dx x)) 33); rwa [World.size_alloc] at h)
            have HN2 : Hid (Want ((wr.alloc (.cells #[.int .i64 0, .int .i64 b, .int .u32 x] 44)).alloc (.cells (row (dx x)) 33)) g9 DD) := Lib.hid ((HX2.out.block _ (lt_of HN.out) (by simp)).trans HN.out)
            have HCL := Lib.hid (putx (HO2.out) b x)
            rw [← hNS, hE8] at HCL
            have HDL1 : Hid (DD.length = 16) := Lib.hid (by rw [← R3.out]; exact fd_len _)
            have hq := eqD DD HDL1.out
            clear hNS hE8 h3
            go_wp2_with (first
              | ((with_reducible refine store_rownS (dx x) rfl _ _ rfl _ _ (wr.heap.size + 1) ?_ ?_ ?_ ?_ ?_); (exact (World.size_alloc _ _).symm); (rfl); (rfl); (rfl))
              | ((with_reducible refine load_row (dx x) rfl _ (wr.heap.size + 1) ?_ (range_row HD2.out) ?_); (rfl))
              | (go_at_call 11; ((with_reducible refine HCL.out.mono ?_); rintro e w4 ⟨rfl, v4, ho4, ht4⟩; have HO4 := Lib.hid ho4; have HQ4 := Lib.hid (HO2.out.aside ht4 HQ2.out (by decide) (by decide)); have HD4 := Lib.hid (HO2.out.aside ht4 HD2.out (by decide) (by decide)); have HN4 : Hid (Want w4 g9 DD) := Lib.hid (HO2.out.aside ht4 HN2.out (by decide) (by decide)); have q0 : w4.cell? ⟨wr.heap.size, 0, none⟩ = some (.int .i64 0) := (by simp [World.cell?, HQ4.out]); have q1 : w4.cell? ⟨wr.heap.size, 1, none⟩ = some (.int .i64 b) := (by simp [World.cell?, HQ4.out]); have q2 : w4.cell? ⟨wr.heap.size, 2, none⟩ = some (.int .u32 x) := (by simp [World.cell?, HQ4.out]); clear ho4 ht4))
              | (go_at_call 13; ((with_reducible refine (HFI.out _ _ HO4.out).mono ?_); rintro e w5 ⟨rfl, v5, ho5, ht5⟩; have HN5 : Hid (Want w5 g9 DD) := Lib.hid (Own.aside HO4.out ht5 HN4.out (by decide) (by decide)); have HO6 := Lib.hid (ho5.grown (w2 := w5.alloc (.cells (row DD) 33)) (grown_alloc (grown_refl _ _) _)); have HD6 : Hid ((w5.alloc (.cells (row DD) 33)).heap[w5.heap.size]? = some (.cells (row DD) 33 (0, 0))) := Lib.hid (heap_alloc_new _ _); have HN6 : Hid (Want (w5.alloc (.cells (row DD) 33)) g9 DD) := Lib.hid ((Below.heap_alloc _ _ _ (lt_of HN5.out)).trans HN5.out); clear ho5 ht5))
              | ((with_reducible refine store_rown DD HDL1.out _ _ rfl _ _ ?_ ?_ ?_ ?_); (rfl); (rfl); (rfl))
              | ((with_reducible refine load_row DD HDL1.out _ w5.heap.size ?_ (range_row HD6.out) ?_); (rfl))
              | ((with_reducible refine load_row DD HDL1.out _ g9 ?_ (range_row HN6.out) ?_); (rfl))
              | fail)
            go_roundw
            case rel => exact ⟨j + 1, _, NS, by omega, by go_num, by rw [R1.out], by rw [R2.out], HO6.out, HINV.out, by rw [R3.out]; exact HN6.out⟩
            case measure => simp [intOf]; omega
          · obtain rfl : IS = false := by rw [HIS.out]; simpa using h3
            obtain rfl : FL = false := by rw [HFL.out, show look ns b = none by simpa using h3]; rfl
            obtain rfl : DD = zd := by rw [HDD.out, show look ns b = none by simpa using h3]; rfl
            by_cases h4 : putE c.data m ns b = 0
            · have hno : look ns b = none := by simpa using h3
              have hE0 : putE c.data m ns b = 0 := h4
              obtain ⟨NS, hNS⟩ : ∃ NS, NS = puts c.data m ns b (dx x) (dx_len x) := ⟨_, rfl⟩
              have HINV : Hid (Nd NS ∧ Rg c.data NS) := Lib.hid (by rw [hNS]; exact ⟨nd_puts _ _ _ _ _ HI.out.1, rg_puts _ _ _ HI.out.2⟩)
              have R1 : Hid ((look NS b).isSome = true) := Lib.hid (by rw [hNS]; rw [look_puts, if_pos ⟨hE0, rfl⟩]; rfl)
              have R2 : Hid (fl (look NS b) = true) := Lib.hid (by rw [hNS]; rw [look_puts, if_pos ⟨hE0, rfl⟩]; rfl)
              have R3 : Hid (fd (look NS b) = (dx x)) := Lib.hid (by rw [hNS]; rw [look_puts, if_pos ⟨hE0, rfl⟩]; rfl)
              have HFI : Hid (∀ (v' : Value) (W : World), Own wb W t p v' c.data m NS → _) := Lib.hid fun v' W h => own_find h b
              rw [R1.out, R2.out, R3.out] at HFI
              have HX2 : Hid (wr.grownBy ((wr.alloc (.cells #[.int .i64 0, .int .i64 b, .int .u32 x] 44)).alloc (.cells (row (dx x)) 33)) none) := Lib.hid (grown_alloc (grown_alloc (grown_refl _ _) _) _)
              have HO2 := Lib.hid (HO.out.grown HX2.out)
              have HQ2 : Hid (((wr.alloc (.cells #[.int .i64 0, .int .i64 b, .int .u32 x] 44)).alloc (.cells (row (dx x)) 33)).heap[wr.heap.size]? = some (.cells #[.int .i64 0, .int .i64 b, .int .u32 x] 44 (0, 0))) := Lib.hid ((Below.heap_alloc _ _ _ (by simp)).trans (heap_alloc_new _ _))
              have HD2 : Hid (((wr.alloc (.cells #[.int .i64 0, .int .i64 b, .int .u32 x] 44)).alloc (.cells (row (dx x)) 33)).heap[wr.heap.size + 1]? = some (.cells (row (dx x)) 33 (0, 0))) := Lib.hid (by have h := heap_alloc_new (wr.alloc (.cells #[.int .i64 0, .int .i64 b, .int .u32 x] 44)) (.cells (row (dx x)) 33); rwa [World.size_alloc] at h)
              have HN2 : Hid (Want ((wr.alloc (.cells #[.int .i64 0, .int .i64 b, .int .u32 x] 44)).alloc (.cells (row (dx x)) 33)) g9 zd) := Lib.hid ((HX2.out.block _ (lt_of HN.out) (by simp)).trans HN.out)
              have HCL := Lib.hid (putx (HO2.out) b x)
              rw [← hNS, hE0] at HCL
              have HDL1 : Hid ((dx x).length = 16) := Lib.hid (by rw [← R3.out]; exact fd_len _)
              have hq := eqD (dx x) HDL1.out
              clear hNS hno hE0 h3 h4
              go_wp2_with (first
                | ((with_reducible refine store_rownS (dx x) rfl _ _ rfl _ _ (wr.heap.size + 1) ?_ ?_ ?_ ?_ ?_); (exact (World.size_alloc _ _).symm); (rfl); (rfl); (rfl))
                | ((with_reducible refine load_row (dx x) rfl _ (wr.heap.size + 1) ?_ (range_row HD2.out) ?_); (rfl))
                | (go_at_call 11; ((with_reducible refine HCL.out.mono ?_); rintro e w4 ⟨rfl, v4, ho4, ht4⟩; have HO4 := Lib.hid ho4; have HQ4 := Lib.hid (HO2.out.aside ht4 HQ2.out (by decide) (by decide)); have HD4 := Lib.hid (HO2.out.aside ht4 HD2.out (by decide) (by decide)); have HN4 : Hid (Want w4 g9 zd) := Lib.hid (HO2.out.aside ht4 HN2.out (by decide) (by decide)); have q0 : w4.cell? ⟨wr.heap.size, 0, none⟩ = some (.int .i64 0) := (by simp [World.cell?, HQ4.out]); have q1 : w4.cell? ⟨wr.heap.size, 1, none⟩ = some (.int .i64 b) := (by simp [World.cell?, HQ4.out]); have q2 : w4.cell? ⟨wr.heap.size, 2, none⟩ = some (.int .u32 x) := (by simp [World.cell?, HQ4.out]); clear ho4 ht4))
                | ((with_reducible refine load_row (dx x) rfl _ (wr.heap.size + 1) ?_ (range_row HD4.out) ?_); (rfl))
                | ((with_reducible refine store_row (dx x) rfl _ _ rfl _ _ g9 ?_ ?_ HN4.out ?_ ?_); (rfl); (rfl); (simp [row, HDL.out]))
                | (go_at_call 13; ((with_reducible refine (HFI.out _ _ (HO4.out.setRow HN4.out HG9.out (row (dx x)))).mono ?_); rintro e w5 ⟨rfl, v5, ho5, ht5⟩; have HN5 : Hid (Want w5 g9 (dx x)) := Lib.hid (Own.aside (HO4.out.setRow HN4.out HG9.out (row (dx x))) ht5 (setRow_heap _ _ _ _ _ _ HN4.out) (by decide) (by decide)); have HO6 := Lib.hid (ho5.grown (w2 := w5.alloc (.cells (row (dx x)) 33)) (grown_alloc (grown_refl _ _) _)); have HD6 : Hid ((w5.alloc (.cells (row (dx x)) 33)).heap[w5.heap.size]? = some (.cells (row (dx x)) 33 (0, 0))) := Lib.hid (heap_alloc_new _ _); have HN6 : Hid (Want (w5.alloc (.cells (row (dx x)) 33)) g9 (dx x)) := Lib.hid ((Below.heap_alloc _ _ _ (lt_of HN5.out)).trans HN5.out); clear ho5 ht5))
                | ((with_reducible refine store_rown (dx x) HDL1.out _ _ rfl _ _ ?_ ?_ ?_ ?_); (rfl); (rfl); (rfl))
                | ((with_reducible refine load_row (dx x) HDL1.out _ w5.heap.size ?_ (range_row HD6.out) ?_); (rfl))
                | ((with_reducible refine load_row (dx x) HDL1.out _ g9 ?_ (range_row HN6.out) ?_); (rfl))
                | fail)
              go_roundw
              case rel => exact ⟨j + 1, _, NS, by omega, by go_num, by rw [R1.out], by rw [R2.out], HO6.out, HINV.out, by rw [R3.out]; exact HN6.out⟩
              case measure => simp [intOf]; omega
            · have hno : look ns b = none := by simpa using h3
              obtain ⟨E0, hE0⟩ : ∃ E, E = putE c.data m ns b := ⟨_, rfl⟩
              have hEz : (E0 == 0) = false := by rw [hE0]; simpa using h4
              obtain ⟨NS, hNS⟩ : ∃ NS, NS = puts c.data m ns b (dx x) (dx_len x) := ⟨_, rfl⟩
              have HINV : Hid (Nd NS ∧ Rg c.data NS) := Lib.hid (by rw [hNS]; exact ⟨nd_puts _ _ _ _ _ HI.out.1, rg_puts _ _ _ HI.out.2⟩)
              have R1 : Hid ((look NS b).isSome = false) := Lib.hid (by rw [hNS]; rw [look_puts, if_neg (fun e => h4 e.1), hno]; rfl)
              have R2 : Hid (fl (look NS b) = false) := Lib.hid (by rw [hNS]; rw [look_puts, if_neg (fun e => h4 e.1), hno]; rfl)
              have R3 : Hid (fd (look NS b) = zd) := Lib.hid (by rw [hNS]; rw [look_puts, if_neg (fun e => h4 e.1), hno]; rfl)
              have HFI : Hid (∀ (v' : Value) (W : World), Own wb W t p v' c.data m NS → _) := Lib.hid fun v' W h => own_find h b
              rw [R1.out, R2.out, R3.out] at HFI
              have HX2 : Hid (wr.grownBy ((wr.alloc (.cells #[.int .i64 0, .int .i64 b, .int .u32 x] 44)).alloc (.cells (row (dx x)) 33)) none) := Lib.hid (grown_alloc (grown_alloc (grown_refl _ _) _) _)
              have HO2 := Lib.hid (HO.out.grown HX2.out)
              have HQ2 : Hid (((wr.alloc (.cells #[.int .i64 0, .int .i64 b, .int .u32 x] 44)).alloc (.cells (row (dx x)) 33)).heap[wr.heap.size]? = some (.cells #[.int .i64 0, .int .i64 b, .int .u32 x] 44 (0, 0))) := Lib.hid ((Below.heap_alloc _ _ _ (by simp)).trans (heap_alloc_new _ _))
              have HD2 : Hid (((wr.alloc (.cells #[.int .i64 0, .int .i64 b, .int .u32 x] 44)).alloc (.cells (row (dx x)) 33)).heap[wr.heap.size + 1]? = some (.cells (row (dx x)) 33 (0, 0))) := Lib.hid (by have h := heap_alloc_new (wr.alloc (.cells #[.int .i64 0, .int .i64 b, .int .u32 x] 44)) (.cells (row (dx x)) 33); rwa [World.size_alloc] at h)
              have HN2 : Hid (Want ((wr.alloc (.cells #[.int .i64 0, .int .i64 b, .int .u32 x] 44)).alloc (.cells (row (dx x)) 33)) g9 zd) := Lib.hid ((HX2.out.block _ (lt_of HN.out) (by simp)).trans HN.out)
              have HCL := Lib.hid (putx (HO2.out) b x)
              rw [← hNS, ← hE0] at HCL
              have HDL1 : Hid (zd.length = 16) := Lib.hid (by rw [← R3.out]; exact fd_len _)
              have hq := eqD zd HDL1.out
              clear hNS hno hE0 h3 h4
              go_wp2_with (first
                | ((with_reducible refine store_rownS (dx x) rfl _ _ rfl _ _ (wr.heap.size + 1) ?_ ?_ ?_ ?_ ?_); (exact (World.size_alloc _ _).symm); (rfl); (rfl); (rfl))
                | ((with_reducible refine load_row (dx x) rfl _ (wr.heap.size + 1) ?_ (range_row HD2.out) ?_); (rfl))
                | (go_at_call 11; ((with_reducible refine HCL.out.mono ?_); rintro e w4 ⟨rfl, v4, ho4, ht4⟩; have HO4 := Lib.hid ho4; have HQ4 := Lib.hid (HO2.out.aside ht4 HQ2.out (by decide) (by decide)); have HD4 := Lib.hid (HO2.out.aside ht4 HD2.out (by decide) (by decide)); have HN4 : Hid (Want w4 g9 zd) := Lib.hid (HO2.out.aside ht4 HN2.out (by decide) (by decide)); have q0 : w4.cell? ⟨wr.heap.size, 0, none⟩ = some (.int .i64 0) := (by simp [World.cell?, HQ4.out]); have q1 : w4.cell? ⟨wr.heap.size, 1, none⟩ = some (.int .i64 b) := (by simp [World.cell?, HQ4.out]); have q2 : w4.cell? ⟨wr.heap.size, 2, none⟩ = some (.int .u32 x) := (by simp [World.cell?, HQ4.out]); clear ho4 ht4))
                | (go_at_call 13; ((with_reducible refine (HFI.out _ _ HO4.out).mono ?_); rintro e w5 ⟨rfl, v5, ho5, ht5⟩; have HN5 : Hid (Want w5 g9 zd) := Lib.hid (Own.aside HO4.out ht5 HN4.out (by decide) (by decide)); have HO6 := Lib.hid (ho5.grown (w2 := w5.alloc (.cells (row zd) 33)) (grown_alloc (grown_refl _ _) _)); have HD6 : Hid ((w5.alloc (.cells (row zd) 33)).heap[w5.heap.size]? = some (.cells (row zd) 33 (0, 0))) := Lib.hid (heap_alloc_new _ _); have HN6 : Hid (Want (w5.alloc (.cells (row zd) 33)) g9 zd) := Lib.hid ((Below.heap_alloc _ _ _ (lt_of HN5.out)).trans HN5.out); clear ho5 ht5))
                | ((with_reducible refine store_rown zd HDL1.out _ _ rfl _ _ ?_ ?_ ?_ ?_); (rfl); (rfl); (rfl))
                | ((with_reducible refine load_row zd HDL1.out _ w5.heap.size ?_ (range_row HD6.out) ?_); (rfl))
                | ((with_reducible refine load_row zd HDL1.out _ g9 ?_ (range_row HN6.out) ?_); (rfl))
                | fail)
              go_roundw
              case rel => exact ⟨j + 1, _, NS, by omega, by go_num, by rw [R1.out], by rw [R2.out], HO6.out, HINV.out, by rw [R3.out]; exact HN6.out⟩
              case measure => simp [intOf]; omega
        · by_cases hk2 : kd = 2
          · subst hk2
            clear hk0
            obtain ⟨NS, hNS⟩ : ∃ NS, NS = kills ns b := ⟨_, rfl⟩
            have HINV : Hid (Nd NS ∧ Rg c.data NS) := Lib.hid (by rw [hNS]; exact ⟨nd_kills _ HI.out.1, rg_kills _ HI.out.2⟩)
            have R1 : Hid ((look NS b).isSome = IS) := Lib.hid (by rw [hNS]; rw [look_kills b b HI.out.1, if_pos rfl]; rw [some_dead]; exact HIS.out.symm)
            have R2 : Hid (fl (look NS b) = false) := Lib.hid (by rw [hNS]; rw [look_kills b b HI.out.1, if_pos rfl]; exact fl_dead _)
            have R3 : Hid (fd (look NS b) = DD) := Lib.hid (by rw [hNS]; rw [look_kills b b HI.out.1, if_pos rfl]; rw [fd_dead]; exact HDD.out.symm)
            have HFI : Hid (∀ (v' : Value) (W : World), Own wb W t p v' c.data m NS → _) := Lib.hid fun v' W h => own_find h b
            rw [R1.out, R2.out, R3.out] at HFI
            have HX2 : Hid (wr.grownBy ((wr.alloc (.cells #[.int .i64 2, .int .i64 b, .int .u32 x] 44)).alloc (.cells (row (dx x)) 33)) none) := Lib.hid (grown_alloc (grown_alloc (grown_refl _ _) _) _)
            have HO2 := Lib.hid (HO.out.grown HX2.out)
            have HQ2 : Hid (((wr.alloc (.cells #[.int .i64 2, .int .i64 b, .int .u32 x] 44)).alloc (.cells (row (dx x)) 33)).heap[wr.heap.size]? = some (.cells #[.int .i64 2, .int .i64 b, .int .u32 x] 44 (0, 0))) := Lib.hid ((Below.heap_alloc _ _ _ (by simp)).trans (heap_alloc_new _ _))
            have HD2 : Hid (((wr.alloc (.cells #[.int .i64 2, .int .i64 b, .int .u32 x] 44)).alloc (.cells (row (dx x)) 33)).heap[wr.heap.size + 1]? = some (.cells (row (dx x)) 33 (0, 0))) := Lib.hid (by have h := heap_alloc_new (wr.alloc (.cells #[.int .i64 2, .int .i64 b, .int .u32 x] 44)) (.cells (row (dx x)) 33); rwa [World.size_alloc] at h)
            have HN2 : Hid (Want ((wr.alloc (.cells #[.int .i64 2, .int .i64 b, .int .u32 x] 44)).alloc (.cells (row (dx x)) 33)) g9 DD) := Lib.hid ((HX2.out.block _ (lt_of HN.out) (by simp)).trans HN.out)
            have HCL := Lib.hid (own_kill HO2.out b)
            rw [← hNS, ← HFL.out] at HCL
            have HDL1 : Hid (DD.length = 16) := Lib.hid (by rw [← R3.out]; exact fd_len _)
            have hq := eqD DD HDL1.out
            clear hNS
            go_wp2_with (first
              | ((with_reducible refine store_rownS (dx x) rfl _ _ rfl _ _ (wr.heap.size + 1) ?_ ?_ ?_ ?_ ?_); (exact (World.size_alloc _ _).symm); (rfl); (rfl); (rfl))
              | (go_at_call 12; ((with_reducible refine HCL.out.mono ?_); rintro e w4 ⟨rfl, v4, ho4, ht4⟩; have HO4 := Lib.hid ho4; have HQ4 := Lib.hid (HO2.out.aside ht4 HQ2.out (by decide) (by decide)); have HD4 := Lib.hid (HO2.out.aside ht4 HD2.out (by decide) (by decide)); have HN4 : Hid (Want w4 g9 DD) := Lib.hid (HO2.out.aside ht4 HN2.out (by decide) (by decide)); have q0 : w4.cell? ⟨wr.heap.size, 0, none⟩ = some (.int .i64 2) := (by simp [World.cell?, HQ4.out]); have q1 : w4.cell? ⟨wr.heap.size, 1, none⟩ = some (.int .i64 b) := (by simp [World.cell?, HQ4.out]); have q2 : w4.cell? ⟨wr.heap.size, 2, none⟩ = some (.int .u32 x) := (by simp [World.cell?, HQ4.out]); clear ho4 ht4))
              | (go_at_call 13; ((with_reducible refine (HFI.out _ _ HO4.out).mono ?_); rintro e w5 ⟨rfl, v5, ho5, ht5⟩; have HN5 : Hid (Want w5 g9 DD) := Lib.hid (Own.aside HO4.out ht5 HN4.out (by decide) (by decide)); have HO6 := Lib.hid (ho5.grown (w2 := w5.alloc (.cells (row DD) 33)) (grown_alloc (grown_refl _ _) _)); have HD6 : Hid ((w5.alloc (.cells (row DD) 33)).heap[w5.heap.size]? = some (.cells (row DD) 33 (0, 0))) := Lib.hid (heap_alloc_new _ _); have HN6 : Hid (Want (w5.alloc (.cells (row DD) 33)) g9 DD) := Lib.hid ((Below.heap_alloc _ _ _ (lt_of HN5.out)).trans HN5.out); clear ho5 ht5))
              | ((with_reducible refine store_rown DD HDL1.out _ _ rfl _ _ ?_ ?_ ?_ ?_); (rfl); (rfl); (rfl))
              | ((with_reducible refine load_row DD HDL1.out _ w5.heap.size ?_ (range_row HD6.out) ?_); (rfl))
              | ((with_reducible refine load_row DD HDL1.out _ g9 ?_ (range_row HN6.out) ?_); (rfl))
              | fail)
            go_roundw
            case rel => exact ⟨j + 1, _, NS, by omega, by go_num, by rw [R1.out], by rw [R2.out], HO6.out, HINV.out, by rw [R3.out]; exact HN6.out⟩
            case measure => simp [intOf]; omega
          · by_cases hk3 : kd = 3
            · subst hk3
              clear hk0 hk2
              obtain ⟨NS, hNS⟩ : ∃ NS, NS = rem ns b := ⟨_, rfl⟩
              have HINV : Hid (Nd NS ∧ Rg c.data NS) := Lib.hid (by rw [hNS]; exact ⟨nd_rem _ HI.out.1, rg_rem _ HI.out.2⟩)
              have R1 : Hid ((look NS b).isSome = false) := Lib.hid (by rw [hNS]; rw [look_rem b b HI.out.1, if_pos rfl]; rfl)
              have R2 : Hid (fl (look NS b) = false) := Lib.hid (by rw [hNS]; rw [look_rem b b HI.out.1, if_pos rfl]; rfl)
              have R3 : Hid (fd (look NS b) = zd) := Lib.hid (by rw [hNS]; rw [look_rem b b HI.out.1, if_pos rfl]; rfl)
              have HFI : Hid (∀ (v' : Value) (W : World), Own wb W t p v' c.data m NS → _) := Lib.hid fun v' W h => own_find h b
              rw [R1.out, R2.out, R3.out] at HFI
              have HX2 : Hid (wr.grownBy ((wr.alloc (.cells #[.int .i64 3, .int .i64 b, .int .u32 x] 44)).alloc (.cells (row (dx x)) 33)) none) := Lib.hid (grown_alloc (grown_alloc (grown_refl _ _) _) _)
              have HO2 := Lib.hid (HO.out.grown HX2.out)
              have HQ2 : Hid (((wr.alloc (.cells #[.int .i64 3, .int .i64 b, .int .u32 x] 44)).alloc (.cells (row (dx x)) 33)).heap[wr.heap.size]? = some (.cells #[.int .i64 3, .int .i64 b, .int .u32 x] 44 (0, 0))) := Lib.hid ((Below.heap_alloc _ _ _ (by simp)).trans (heap_alloc_new _ _))
              have HD2 : Hid (((wr.alloc (.cells #[.int .i64 3, .int .i64 b, .int .u32 x] 44)).alloc (.cells (row (dx x)) 33)).heap[wr.heap.size + 1]? = some (.cells (row (dx x)) 33 (0, 0))) := Lib.hid (by have h := heap_alloc_new (wr.alloc (.cells #[.int .i64 3, .int .i64 b, .int .u32 x] 44)) (.cells (row (dx x)) 33); rwa [World.size_alloc] at h)
              have HN2 : Hid (Want ((wr.alloc (.cells #[.int .i64 3, .int .i64 b, .int .u32 x] 44)).alloc (.cells (row (dx x)) 33)) g9 DD) := Lib.hid ((HX2.out.block _ (lt_of HN.out) (by simp)).trans HN.out)
              have HCL := Lib.hid (own_drop HO2.out b)
              rw [← hNS, ← HIS.out] at HCL
              have HDL1 : Hid (zd.length = 16) := Lib.hid (by rw [← R3.out]; exact fd_len _)
              have hq := eqD zd HDL1.out
              clear hNS
              go_wp2_with (first
                | ((with_reducible refine store_rownS (dx x) rfl _ _ rfl _ _ (wr.heap.size + 1) ?_ ?_ ?_ ?_ ?_); (exact (World.size_alloc _ _).symm); (rfl); (rfl); (rfl))
                | (go_at_call 14; ((with_reducible refine HCL.out.mono ?_); rintro e w4 ⟨rfl, v4, ho4, ht4⟩; have HO4 := Lib.hid ho4; have HQ4 := Lib.hid (HO2.out.aside ht4 HQ2.out (by decide) (by decide)); have HD4 := Lib.hid (HO2.out.aside ht4 HD2.out (by decide) (by decide)); have HN4 : Hid (Want w4 g9 DD) := Lib.hid (HO2.out.aside ht4 HN2.out (by decide) (by decide)); have q0 : w4.cell? ⟨wr.heap.size, 0, none⟩ = some (.int .i64 3) := (by simp [World.cell?, HQ4.out]); have q1 : w4.cell? ⟨wr.heap.size, 1, none⟩ = some (.int .i64 b) := (by simp [World.cell?, HQ4.out]); have q2 : w4.cell? ⟨wr.heap.size, 2, none⟩ = some (.int .u32 x) := (by simp [World.cell?, HQ4.out]); clear ho4 ht4))
                | ((with_reducible refine store_row zd rfl _ _ rfl _ _ g9 ?_ ?_ HN4.out ?_ ?_); (rfl); (rfl); (simp [row, HDL.out]))
                | (go_at_call 13; ((with_reducible refine (HFI.out _ _ (HO4.out.setRow HN4.out HG9.out (row zd))).mono ?_); rintro e w5 ⟨rfl, v5, ho5, ht5⟩; have HN5 : Hid (Want w5 g9 zd) := Lib.hid (Own.aside (HO4.out.setRow HN4.out HG9.out (row zd)) ht5 (setRow_heap _ _ _ _ _ _ HN4.out) (by decide) (by decide)); have HO6 := Lib.hid (ho5.grown (w2 := w5.alloc (.cells (row zd) 33)) (grown_alloc (grown_refl _ _) _)); have HD6 : Hid ((w5.alloc (.cells (row zd) 33)).heap[w5.heap.size]? = some (.cells (row zd) 33 (0, 0))) := Lib.hid (heap_alloc_new _ _); have HN6 : Hid (Want (w5.alloc (.cells (row zd) 33)) g9 zd) := Lib.hid ((Below.heap_alloc _ _ _ (lt_of HN5.out)).trans HN5.out); clear ho5 ht5))
                | ((with_reducible refine store_rown zd HDL1.out _ _ rfl _ _ ?_ ?_ ?_ ?_); (rfl); (rfl); (rfl))
                | ((with_reducible refine load_row zd HDL1.out _ w5.heap.size ?_ (range_row HD6.out) ?_); (rfl))
                | ((with_reducible refine load_row zd HDL1.out _ g9 ?_ (range_row HN6.out) ?_); (rfl))
                | fail)
              go_roundw
              case rel => exact ⟨j + 1, _, NS, by omega, by go_num, by rw [R1.out], by rw [R2.out], HO6.out, HINV.out, by rw [R3.out]; exact HN6.out⟩
              case measure => simp [intOf]; omega
            · have k0 : (kd == 0) = false := by simpa using hk0
              have k2 : (kd == 2) = false := by simpa using hk2
              have k3 : (kd == 3) = false := by simpa using hk3
              obtain ⟨NS, hNS⟩ : ∃ NS, NS = ns := ⟨_, rfl⟩
              have HINV : Hid (Nd NS ∧ Rg c.data NS) := Lib.hid (by rw [hNS]; exact HI.out)
              have R1 : Hid ((look NS b).isSome = IS) := Lib.hid (by rw [hNS]; skip; exact HIS.out.symm)
              have R2 : Hid (fl (look NS b) = FL) := Lib.hid (by rw [hNS]; skip; exact HFL.out.symm)
              have R3 : Hid (fd (look NS b) = DD) := Lib.hid (by rw [hNS]; skip; exact HDD.out.symm)
              have HFI : Hid (∀ (v' : Value) (W : World), Own wb W t p v' c.data m NS → _) := Lib.hid fun v' W h => own_find h b
              rw [R1.out, R2.out, R3.out] at HFI
              have HX2 : Hid (wr.grownBy ((wr.alloc (.cells #[.int .i64 kd, .int .i64 b, .int .u32 x] 44)).alloc (.cells (row (dx x)) 33)) none) := Lib.hid (grown_alloc (grown_alloc (grown_refl _ _) _) _)
              have HO2 := Lib.hid (HO.out.grown HX2.out)
              have HQ2 : Hid (((wr.alloc (.cells #[.int .i64 kd, .int .i64 b, .int .u32 x] 44)).alloc (.cells (row (dx x)) 33)).heap[wr.heap.size]? = some (.cells #[.int .i64 kd, .int .i64 b, .int .u32 x] 44 (0, 0))) := Lib.hid ((Below.heap_alloc _ _ _ (by simp)).trans (heap_alloc_new _ _))
              have HD2 : Hid (((wr.alloc (.cells #[.int .i64 kd, .int .i64 b, .int .u32 x] 44)).alloc (.cells (row (dx x)) 33)).heap[wr.heap.size + 1]? = some (.cells (row (dx x)) 33 (0, 0))) := Lib.hid (by have h := heap_alloc_new (wr.alloc (.cells #[.int .i64 kd, .int .i64 b, .int .u32 x] 44)) (.cells (row (dx x)) 33); rwa [World.size_alloc] at h)
              have HN2 : Hid (Want ((wr.alloc (.cells #[.int .i64 kd, .int .i64 b, .int .u32 x] 44)).alloc (.cells (row (dx x)) 33)) g9 DD) := Lib.hid ((HX2.out.block _ (lt_of HN.out) (by simp)).trans HN.out)
              have HO2 : Hid (Own wb _ t p v c.data m NS) := Lib.hid (by rw [hNS]; exact HO2.out)
              have HDL1 : Hid (DD.length = 16) := Lib.hid (by rw [← R3.out]; exact fd_len _)
              have hq := eqD DD HDL1.out
              clear hNS hk0 hk2 hk3
              go_wp2_with (first
                | ((with_reducible refine store_rownS (dx x) rfl _ _ rfl _ _ (wr.heap.size + 1) ?_ ?_ ?_ ?_ ?_); (exact (World.size_alloc _ _).symm); (rfl); (rfl); (rfl))
                | (go_at_call 13; ((with_reducible refine (HFI.out _ _ HO2.out).mono ?_); rintro e w5 ⟨rfl, v5, ho5, ht5⟩; have HN5 : Hid (Want w5 g9 DD) := Lib.hid (Own.aside HO2.out ht5 HN2.out (by decide) (by decide)); have HO6 := Lib.hid (ho5.grown (w2 := w5.alloc (.cells (row DD) 33)) (grown_alloc (grown_refl _ _) _)); have HD6 : Hid ((w5.alloc (.cells (row DD) 33)).heap[w5.heap.size]? = some (.cells (row DD) 33 (0, 0))) := Lib.hid (heap_alloc_new _ _); have HN6 : Hid (Want (w5.alloc (.cells (row DD) 33)) g9 DD) := Lib.hid ((Below.heap_alloc _ _ _ (lt_of HN5.out)).trans HN5.out); clear ho5 ht5))
                | ((with_reducible refine store_rown DD HDL1.out _ _ rfl _ _ ?_ ?_ ?_ ?_); (rfl); (rfl); (rfl))
                | ((with_reducible refine load_row DD HDL1.out _ w5.heap.size ?_ (range_row HD6.out) ?_); (rfl))
                | ((with_reducible refine load_row DD HDL1.out _ g9 ?_ (range_row HN6.out) ?_); (rfl))
                | fail)
              go_roundw
              case rel => exact ⟨j + 1, _, NS, by omega, by go_num, by rw [R1.out], by rw [R2.out], HO6.out, HINV.out, by rw [R3.out]; exact HN6.out⟩
              case measure => simp [intOf]; omega
      · by_cases hk0 : kd = 0
        · subst hk0
          have hb1 : (b == block) = false := by simpa using hbb
          obtain ⟨E0, hE0⟩ : ∃ E, E = putE c.data m ns b := ⟨_, rfl⟩
          obtain ⟨NS, hNS⟩ : ∃ NS, NS = puts c.data m ns b (dx x) (dx_len x) := ⟨_, rfl⟩
          have HINV : Hid (Nd NS ∧ Rg c.data NS) := Lib.hid (by rw [hNS]; exact ⟨nd_puts _ _ _ _ _ HI.out.1, rg_puts _ _ _ HI.out.2⟩)
          have R1 : Hid ((look NS block).isSome = IS) := Lib.hid (by rw [hNS]; rw [look_puts, if_neg (fun e => hbb e.2.symm)]; exact HIS.out.symm)
          have R2 : Hid (fl (look NS block) = FL) := Lib.hid (by rw [hNS]; rw [look_puts, if_neg (fun e => hbb e.2.symm)]; exact HFL.out.symm)
          have R3 : Hid (fd (look NS block) = DD) := Lib.hid (by rw [hNS]; rw [look_puts, if_neg (fun e => hbb e.2.symm)]; exact HDD.out.symm)
          have HFI : Hid (∀ (v' : Value) (W : World), Own wb W t p v' c.data m NS → _) := Lib.hid fun v' W h => own_find h block
          rw [R1.out, R2.out, R3.out] at HFI
          have HX2 : Hid (wr.grownBy ((wr.alloc (.cells #[.int .i64 0, .int .i64 b, .int .u32 x] 44)).alloc (.cells (row (dx x)) 33)) none) := Lib.hid (grown_alloc (grown_alloc (grown_refl _ _) _) _)
          have HO2 := Lib.hid (HO.out.grown HX2.out)
          have HQ2 : Hid (((wr.alloc (.cells #[.int .i64 0, .int .i64 b, .int .u32 x] 44)).alloc (.cells (row (dx x)) 33)).heap[wr.heap.size]? = some (.cells #[.int .i64 0, .int .i64 b, .int .u32 x] 44 (0, 0))) := Lib.hid ((Below.heap_alloc _ _ _ (by simp)).trans (heap_alloc_new _ _))
          have HD2 : Hid (((wr.alloc (.cells #[.int .i64 0, .int .i64 b, .int .u32 x] 44)).alloc (.cells (row (dx x)) 33)).heap[wr.heap.size + 1]? = some (.cells (row (dx x)) 33 (0, 0))) := Lib.hid (by have h := heap_alloc_new (wr.alloc (.cells #[.int .i64 0, .int .i64 b, .int .u32 x] 44)) (.cells (row (dx x)) 33); rwa [World.size_alloc] at h)
          have HN2 : Hid (Want ((wr.alloc (.cells #[.int .i64 0, .int .i64 b, .int .u32 x] 44)).alloc (.cells (row (dx x)) 33)) g9 DD) := Lib.hid ((HX2.out.block _ (lt_of HN.out) (by simp)).trans HN.out)
          have HCL := Lib.hid (putx (HO2.out) b x)
          rw [← hNS, ← hE0] at HCL
          have HDL1 : Hid (DD.length = 16) := Lib.hid (by rw [← R3.out]; exact fd_len _)
          have hq := eqD DD HDL1.out
          clear hNS hbb hE0
          go_wp2_with (first
            | ((with_reducible refine store_rownS (dx x) rfl _ _ rfl _ _ (wr.heap.size + 1) ?_ ?_ ?_ ?_ ?_); (exact (World.size_alloc _ _).symm); (rfl); (rfl); (rfl))
            | ((with_reducible refine load_row (dx x) rfl _ (wr.heap.size + 1) ?_ (range_row HD2.out) ?_); (rfl))
            | (go_at_call 11; ((with_reducible refine HCL.out.mono ?_); rintro e w4 ⟨rfl, v4, ho4, ht4⟩; have HO4 := Lib.hid ho4; have HQ4 := Lib.hid (HO2.out.aside ht4 HQ2.out (by decide) (by decide)); have HD4 := Lib.hid (HO2.out.aside ht4 HD2.out (by decide) (by decide)); have HN4 : Hid (Want w4 g9 DD) := Lib.hid (HO2.out.aside ht4 HN2.out (by decide) (by decide)); have q0 : w4.cell? ⟨wr.heap.size, 0, none⟩ = some (.int .i64 0) := (by simp [World.cell?, HQ4.out]); have q1 : w4.cell? ⟨wr.heap.size, 1, none⟩ = some (.int .i64 b) := (by simp [World.cell?, HQ4.out]); have q2 : w4.cell? ⟨wr.heap.size, 2, none⟩ = some (.int .u32 x) := (by simp [World.cell?, HQ4.out]); clear ho4 ht4))
            | (go_at_call 13; ((with_reducible refine (HFI.out _ _ HO4.out).mono ?_); rintro e w5 ⟨rfl, v5, ho5, ht5⟩; have HN5 : Hid (Want w5 g9 DD) := Lib.hid (Own.aside HO4.out ht5 HN4.out (by decide) (by decide)); have HO6 := Lib.hid (ho5.grown (w2 := w5.alloc (.cells (row DD) 33)) (grown_alloc (grown_refl _ _) _)); have HD6 : Hid ((w5.alloc (.cells (row DD) 33)).heap[w5.heap.size]? = some (.cells (row DD) 33 (0, 0))) := Lib.hid (heap_alloc_new _ _); have HN6 : Hid (Want (w5.alloc (.cells (row DD) 33)) g9 DD) := Lib.hid ((Below.heap_alloc _ _ _ (lt_of HN5.out)).trans HN5.out); clear ho5 ht5))
            | ((with_reducible refine store_rown DD HDL1.out _ _ rfl _ _ ?_ ?_ ?_ ?_); (rfl); (rfl); (rfl))
            | ((with_reducible refine load_row DD HDL1.out _ w5.heap.size ?_ (range_row HD6.out) ?_); (rfl))
            | ((with_reducible refine load_row DD HDL1.out _ g9 ?_ (range_row HN6.out) ?_); (rfl))
            | fail)
          go_roundw
          case rel => exact ⟨j + 1, _, NS, by omega, by go_num, by rw [R1.out], by rw [R2.out], HO6.out, HINV.out, by rw [R3.out]; exact HN6.out⟩
          case measure => simp [intOf]; omega
        · by_cases hk2 : kd = 2
          · subst hk2
            clear hk0
            have hb1 : (b == block) = false := by simpa using hbb
            obtain ⟨A0, hA0⟩ : ∃ A, A = fl (look ns b) := ⟨_, rfl⟩
            obtain ⟨NS, hNS⟩ : ∃ NS, NS = kills ns b := ⟨_, rfl⟩
            have HINV : Hid (Nd NS ∧ Rg c.data NS) := Lib.hid (by rw [hNS]; exact ⟨nd_kills _ HI.out.1, rg_kills _ HI.out.2⟩)
            have R1 : Hid ((look NS block).isSome = IS) := Lib.hid (by rw [hNS]; rw [look_kills b block HI.out.1, if_neg (fun e => hbb e.symm)]; exact HIS.out.symm)
            have R2 : Hid (fl (look NS block) = FL) := Lib.hid (by rw [hNS]; rw [look_kills b block HI.out.1, if_neg (fun e => hbb e.symm)]; exact HFL.out.symm)
            have R3 : Hid (fd (look NS block) = DD) := Lib.hid (by rw [hNS]; rw [look_kills b block HI.out.1, if_neg (fun e => hbb e.symm)]; exact HDD.out.symm)
            have HFI : Hid (∀ (v' : Value) (W : World), Own wb W t p v' c.data m NS → _) := Lib.hid fun v' W h => own_find h block
            rw [R1.out, R2.out, R3.out] at HFI
            have HX2 : Hid (wr.grownBy ((wr.alloc (.cells #[.int .i64 2, .int .i64 b, .int .u32 x] 44)).alloc (.cells (row (dx x)) 33)) none) := Lib.hid (grown_alloc (grown_alloc (grown_refl _ _) _) _)
            have HO2 := Lib.hid (HO.out.grown HX2.out)
            have HQ2 : Hid (((wr.alloc (.cells #[.int .i64 2, .int .i64 b, .int .u32 x] 44)).alloc (.cells (row (dx x)) 33)).heap[wr.heap.size]? = some (.cells #[.int .i64 2, .int .i64 b, .int .u32 x] 44 (0, 0))) := Lib.hid ((Below.heap_alloc _ _ _ (by simp)).trans (heap_alloc_new _ _))
            have HD2 : Hid (((wr.alloc (.cells #[.int .i64 2, .int .i64 b, .int .u32 x] 44)).alloc (.cells (row (dx x)) 33)).heap[wr.heap.size + 1]? = some (.cells (row (dx x)) 33 (0, 0))) := Lib.hid (by have h := heap_alloc_new (wr.alloc (.cells #[.int .i64 2, .int .i64 b, .int .u32 x] 44)) (.cells (row (dx x)) 33); rwa [World.size_alloc] at h)
            have HN2 : Hid (Want ((wr.alloc (.cells #[.int .i64 2, .int .i64 b, .int .u32 x] 44)).alloc (.cells (row (dx x)) 33)) g9 DD) := Lib.hid ((HX2.out.block _ (lt_of HN.out) (by simp)).trans HN.out)
            have HCL := Lib.hid (own_kill HO2.out b)
            rw [← hNS, ← hA0] at HCL
            have HDL1 : Hid (DD.length = 16) := Lib.hid (by rw [← R3.out]; exact fd_len _)
            have hq := eqD DD HDL1.out
            clear hNS hbb hA0
            go_wp2_with (first
              | ((with_reducible refine store_rownS (dx x) rfl _ _ rfl _ _ (wr.heap.size + 1) ?_ ?_ ?_ ?_ ?_); (exact (World.size_alloc _ _).symm); (rfl); (rfl); (rfl))
              | (go_at_call 12; ((with_reducible refine HCL.out.mono ?_); rintro e w4 ⟨rfl, v4, ho4, ht4⟩; have HO4 := Lib.hid ho4; have HQ4 := Lib.hid (HO2.out.aside ht4 HQ2.out (by decide) (by decide)); have HD4 := Lib.hid (HO2.out.aside ht4 HD2.out (by decide) (by decide)); have HN4 : Hid (Want w4 g9 DD) := Lib.hid (HO2.out.aside ht4 HN2.out (by decide) (by decide)); have q0 : w4.cell? ⟨wr.heap.size, 0, none⟩ = some (.int .i64 2) := (by simp [World.cell?, HQ4.out]); have q1 : w4.cell? ⟨wr.heap.size, 1, none⟩ = some (.int .i64 b) := (by simp [World.cell?, HQ4.out]); have q2 : w4.cell? ⟨wr.heap.size, 2, none⟩ = some (.int .u32 x) := (by simp [World.cell?, HQ4.out]); clear ho4 ht4))
              | (go_at_call 13; ((with_reducible refine (HFI.out _ _ HO4.out).mono ?_); rintro e w5 ⟨rfl, v5, ho5, ht5⟩; have HN5 : Hid (Want w5 g9 DD) := Lib.hid (Own.aside HO4.out ht5 HN4.out (by decide) (by decide)); have HO6 := Lib.hid (ho5.grown (w2 := w5.alloc (.cells (row DD) 33)) (grown_alloc (grown_refl _ _) _)); have HD6 : Hid ((w5.alloc (.cells (row DD) 33)).heap[w5.heap.size]? = some (.cells (row DD) 33 (0, 0))) := Lib.hid (heap_alloc_new _ _); have HN6 : Hid (Want (w5.alloc (.cells (row DD) 33)) g9 DD) := Lib.hid ((Below.heap_alloc _ _ _ (lt_of HN5.out)).trans HN5.out); clear ho5 ht5))
              | ((with_reducible refine store_rown DD HDL1.out _ _ rfl _ _ ?_ ?_ ?_ ?_); (rfl); (rfl); (rfl))
              | ((with_reducible refine load_row DD HDL1.out _ w5.heap.size ?_ (range_row HD6.out) ?_); (rfl))
              | ((with_reducible refine load_row DD HDL1.out _ g9 ?_ (range_row HN6.out) ?_); (rfl))
              | fail)
            go_roundw
            case rel => exact ⟨j + 1, _, NS, by omega, by go_num, by rw [R1.out], by rw [R2.out], HO6.out, HINV.out, by rw [R3.out]; exact HN6.out⟩
            case measure => simp [intOf]; omega
          · by_cases hk3 : kd = 3
            · subst hk3
              clear hk0 hk2
              have hb1 : (b == block) = false := by simpa using hbb
              obtain ⟨A0, hA0⟩ : ∃ A, A = (look ns b).isSome := ⟨_, rfl⟩
              obtain ⟨NS, hNS⟩ : ∃ NS, NS = rem ns b := ⟨_, rfl⟩
              have HINV : Hid (Nd NS ∧ Rg c.data NS) := Lib.hid (by rw [hNS]; exact ⟨nd_rem _ HI.out.1, rg_rem _ HI.out.2⟩)
              have R1 : Hid ((look NS block).isSome = IS) := Lib.hid (by rw [hNS]; rw [look_rem b block HI.out.1, if_neg (fun e => hbb e.symm)]; exact HIS.out.symm)
              have R2 : Hid (fl (look NS block) = FL) := Lib.hid (by rw [hNS]; rw [look_rem b block HI.out.1, if_neg (fun e => hbb e.symm)]; exact HFL.out.symm)
              have R3 : Hid (fd (look NS block) = DD) := Lib.hid (by rw [hNS]; rw [look_rem b block HI.out.1, if_neg (fun e => hbb e.symm)]; exact HDD.out.symm)
              have HFI : Hid (∀ (v' : Value) (W : World), Own wb W t p v' c.data m NS → _) := Lib.hid fun v' W h => own_find h block
              rw [R1.out, R2.out, R3.out] at HFI
              have HX2 : Hid (wr.grownBy ((wr.alloc (.cells #[.int .i64 3, .int .i64 b, .int .u32 x] 44)).alloc (.cells (row (dx x)) 33)) none) := Lib.hid (grown_alloc (grown_alloc (grown_refl _ _) _) _)
              have HO2 := Lib.hid (HO.out.grown HX2.out)
              have HQ2 : Hid (((wr.alloc (.cells #[.int .i64 3, .int .i64 b, .int .u32 x] 44)).alloc (.cells (row (dx x)) 33)).heap[wr.heap.size]? = some (.cells #[.int .i64 3, .int .i64 b, .int .u32 x] 44 (0, 0))) := Lib.hid ((Below.heap_alloc _ _ _ (by simp)).trans (heap_alloc_new _ _))
              have HD2 : Hid (((wr.alloc (.cells #[.int .i64 3, .int .i64 b, .int .u32 x] 44)).alloc (.cells (row (dx x)) 33)).heap[wr.heap.size + 1]? = some (.cells (row (dx x)) 33 (0, 0))) := Lib.hid (by have h := heap_alloc_new (wr.alloc (.cells #[.int .i64 3, .int .i64 b, .int .u32 x] 44)) (.cells (row (dx x)) 33); rwa [World.size_alloc] at h)
              have HN2 : Hid (Want ((wr.alloc (.cells #[.int .i64 3, .int .i64 b, .int .u32 x] 44)).alloc (.cells (row (dx x)) 33)) g9 DD) := Lib.hid ((HX2.out.block _ (lt_of HN.out) (by simp)).trans HN.out)
              have HCL := Lib.hid (own_drop HO2.out b)
              rw [← hNS, ← hA0] at HCL
              have HDL1 : Hid (DD.length = 16) := Lib.hid (by rw [← R3.out]; exact fd_len _)
              have hq := eqD DD HDL1.out
              clear hNS hbb hA0
              go_wp2_with (first
                | ((with_reducible refine store_rownS (dx x) rfl _ _ rfl _ _ (wr.heap.size + 1) ?_ ?_ ?_ ?_ ?_); (exact (World.size_alloc _ _).symm); (rfl); (rfl); (rfl))
                | (go_at_call 14; ((with_reducible refine HCL.out.mono ?_); rintro e w4 ⟨rfl, v4, ho4, ht4⟩; have HO4 := Lib.hid ho4; have HQ4 := Lib.hid (HO2.out.aside ht4 HQ2.out (by decide) (by decide)); have HD4 := Lib.hid (HO2.out.aside ht4 HD2.out (by decide) (by decide)); have HN4 : Hid (Want w4 g9 DD) := Lib.hid (HO2.out.aside ht4 HN2.out (by decide) (by decide)); have q0 : w4.cell? ⟨wr.heap.size, 0, none⟩ = some (.int .i64 3) := (by simp [World.cell?, HQ4.out]); have q1 : w4.cell? ⟨wr.heap.size, 1, none⟩ = some (.int .i64 b) := (by simp [World.cell?, HQ4.out]); have q2 : w4.cell? ⟨wr.heap.size, 2, none⟩ = some (.int .u32 x) := (by simp [World.cell?, HQ4.out]); clear ho4 ht4))
                | (go_at_call 13; ((with_reducible refine (HFI.out _ _ HO4.out).mono ?_); rintro e w5 ⟨rfl, v5, ho5, ht5⟩; have HN5 : Hid (Want w5 g9 DD) := Lib.hid (Own.aside HO4.out ht5 HN4.out (by decide) (by decide)); have HO6 := Lib.hid (ho5.grown (w2 := w5.alloc (.cells (row DD) 33)) (grown_alloc (grown_refl _ _) _)); have HD6 : Hid ((w5.alloc (.cells (row DD) 33)).heap[w5.heap.size]? = some (.cells (row DD) 33 (0, 0))) := Lib.hid (heap_alloc_new _ _); have HN6 : Hid (Want (w5.alloc (.cells (row DD) 33)) g9 DD) := Lib.hid ((Below.heap_alloc _ _ _ (lt_of HN5.out)).trans HN5.out); clear ho5 ht5))
                | ((with_reducible refine store_rown DD HDL1.out _ _ rfl _ _ ?_ ?_ ?_ ?_); (rfl); (rfl); (rfl))
                | ((with_reducible refine load_row DD HDL1.out _ w5.heap.size ?_ (range_row HD6.out) ?_); (rfl))
                | ((with_reducible refine load_row DD HDL1.out _ g9 ?_ (range_row HN6.out) ?_); (rfl))
                | fail)
              go_roundw
              case rel => exact ⟨j + 1, _, NS, by omega, by go_num, by rw [R1.out], by rw [R2.out], HO6.out, HINV.out, by rw [R3.out]; exact HN6.out⟩
              case measure => simp [intOf]; omega
            · have k0 : (kd == 0) = false := by simpa using hk0
              have k2 : (kd == 2) = false := by simpa using hk2
              have k3 : (kd == 3) = false := by simpa using hk3
              have hb1 : (b == block) = false := by simpa using hbb
              obtain ⟨NS, hNS⟩ : ∃ NS, NS = ns := ⟨_, rfl⟩
              have HINV : Hid (Nd NS ∧ Rg c.data NS) := Lib.hid (by rw [hNS]; exact HI.out)
              have R1 : Hid ((look NS block).isSome = IS) := Lib.hid (by rw [hNS]; skip; exact HIS.out.symm)
              have R2 : Hid (fl (look NS block) = FL) := Lib.hid (by rw [hNS]; skip; exact HFL.out.symm)
              have R3 : Hid (fd (look NS block) = DD) := Lib.hid (by rw [hNS]; skip; exact HDD.out.symm)
              have HFI : Hid (∀ (v' : Value) (W : World), Own wb W t p v' c.data m NS → _) := Lib.hid fun v' W h => own_find h block
              rw [R1.out, R2.out, R3.out] at HFI
              have HX2 : Hid (wr.grownBy ((wr.alloc (.cells #[.int .i64 kd, .int .i64 b, .int .u32 x] 44)).alloc (.cells (row (dx x)) 33)) none) := Lib.hid (grown_alloc (grown_alloc (grown_refl _ _) _) _)
              have HO2 := Lib.hid (HO.out.grown HX2.out)
              have HQ2 : Hid (((wr.alloc (.cells #[.int .i64 kd, .int .i64 b, .int .u32 x] 44)).alloc (.cells (row (dx x)) 33)).heap[wr.heap.size]? = some (.cells #[.int .i64 kd, .int .i64 b, .int .u32 x] 44 (0, 0))) := Lib.hid ((Below.heap_alloc _ _ _ (by simp)).trans (heap_alloc_new _ _))
              have HD2 : Hid (((wr.alloc (.cells #[.int .i64 kd, .int .i64 b, .int .u32 x] 44)).alloc (.cells (row (dx x)) 33)).heap[wr.heap.size + 1]? = some (.cells (row (dx x)) 33 (0, 0))) := Lib.hid (by have h := heap_alloc_new (wr.alloc (.cells #[.int .i64 kd, .int .i64 b, .int .u32 x] 44)) (.cells (row (dx x)) 33); rwa [World.size_alloc] at h)
              have HN2 : Hid (Want ((wr.alloc (.cells #[.int .i64 kd, .int .i64 b, .int .u32 x] 44)).alloc (.cells (row (dx x)) 33)) g9 DD) := Lib.hid ((HX2.out.block _ (lt_of HN.out) (by simp)).trans HN.out)
              have HO2 : Hid (Own wb _ t p v c.data m NS) := Lib.hid (by rw [hNS]; exact HO2.out)
              have HDL1 : Hid (DD.length = 16) := Lib.hid (by rw [← R3.out]; exact fd_len _)
              have hq := eqD DD HDL1.out
              clear hNS hbb hk0 hk2 hk3
              go_wp2_with (first
                | ((with_reducible refine store_rownS (dx x) rfl _ _ rfl _ _ (wr.heap.size + 1) ?_ ?_ ?_ ?_ ?_); (exact (World.size_alloc _ _).symm); (rfl); (rfl); (rfl))
                | (go_at_call 13; ((with_reducible refine (HFI.out _ _ HO2.out).mono ?_); rintro e w5 ⟨rfl, v5, ho5, ht5⟩; have HN5 : Hid (Want w5 g9 DD) := Lib.hid (Own.aside HO2.out ht5 HN2.out (by decide) (by decide)); have HO6 := Lib.hid (ho5.grown (w2 := w5.alloc (.cells (row DD) 33)) (grown_alloc (grown_refl _ _) _)); have HD6 : Hid ((w5.alloc (.cells (row DD) 33)).heap[w5.heap.size]? = some (.cells (row DD) 33 (0, 0))) := Lib.hid (heap_alloc_new _ _); have HN6 : Hid (Want (w5.alloc (.cells (row DD) 33)) g9 DD) := Lib.hid ((Below.heap_alloc _ _ _ (lt_of HN5.out)).trans HN5.out); clear ho5 ht5))
                | ((with_reducible refine store_rown DD HDL1.out _ _ rfl _ _ ?_ ?_ ?_ ?_); (rfl); (rfl); (rfl))
                | ((with_reducible refine load_row DD HDL1.out _ w5.heap.size ?_ (range_row HD6.out) ?_); (rfl))
                | ((with_reducible refine load_row DD HDL1.out _ g9 ?_ (range_row HN6.out) ?_); (rfl))
                | fail)
              go_roundw
              case rel => exact ⟨j + 1, _, NS, by omega, by go_num, by rw [R1.out], by rw [R2.out], HO6.out, HINV.out, by rw [R3.out]; exact HN6.out⟩
              case measure => simp [intOf]; omega
    · go_wp2_with (go_at_call 10; ((with_reducible refine (HW.out _ HO.out.old).mono ?_); rintro e w3 ⟨rfl, hg3⟩; have HG3 := Lib.hid (grown_trans HO.out.old hg3); clear hg3))
      go_ret
      exact ⟨rfl, HFIN.out _ HG3.out⟩
theorem keep_true (c : Cfg) (os : List OpX) (ad : Option Addr) (len cap : Nat) (block : Int) (w : World) (hT : Tab w) (hlen : len = os.length) (hat : OpsAt w ad os) : Calls Tryd.prog 5 #[.agg c.cells, .slice ad len cap, .int .i64 block] w fun e w' => e = .returned (.bool true) ∧ w.grownBy w' none := by
  by_cases h : 300 < len
  · exact keep_long c ad len cap block w hT h
  · by_cases hm : c.may
    · exact keep_some c os ad len cap block w hT hlen hat (by omega) hm
    · exact keep_no c ad len cap block w hT (by omega) hm
end Go.Proofs.YtoifeinkaaclmaaDoor.bk
