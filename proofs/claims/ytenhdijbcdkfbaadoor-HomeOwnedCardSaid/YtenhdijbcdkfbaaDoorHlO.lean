/-
  HomeOwned's walk. Condition: the tables lie in their variables as the program's text has them; the notes lie where the argument says.
-/
import Derived.Test.YtenhdijbcdkfbaaDoorHlA
namespace Go.Proofs.YtenhdijbcdkfbaaDoor.hh
open Go Go.ChangeShapes Go.WideShapes Go.ChangeAt Go.RowKit
open Go.Proofs.YtenhdijbcdkfbaaDoor.tt (Nt Cfg fits net bare zd usd uses coreOf ok_ends MapAt mput mdel ik NPool NSl Turn flat na nt zn grown_alloc grown_refl grown_trans tyne lt_of)
open Go.Proofs.YtenhdijbcdkfbaaDoor.en (En gets back asked asks free ask_parts may_parts ea)
open Go.Proofs.YtenhdijbcdkfbaaDoor.mm (wi wo ones wo_lt)
set_option linter.unusedVariables false
set_option linter.unusedSimpArgs false

/-- An operation of a region that draws its order, taken first. -/
theorem tko {P : Program} {md : Region.Mode} {ops : Array Oper} {Q : Exit → Act → World → Prop} {S : World → Prop} {i : Nat} {oi : Oper} {v : Value} {fuel : Nat} {listed : Array Bool} {a : Act} {w : World} (hi : ops[i]? = some oi) (hy : YieldsIf P ops S oi v a) (hS : S w)
    (h : wpAnyH P md ops Q S fuel (listed.setIfInBounds i true) (a.put oi.dst v) w) (hs : Region.noSelect ops = true := by kernel_rfl) (hf : Region.free md ops listed i = true := by kernel_rfl) (hr : (Region.ready md ops listed).contains i = true := by kernel_rfl)
    (hQ : ∀ c a w, Q (.panic c) (a.put oi.dst v) w → Q (.panic c) a w := by exact fun _ _ _ h => h) : wpAnyH P md ops Q S (fuel + 1) listed a w := wpAnyH_take hi hs hf hr hQ hy hS h
/-- The one operation that may come up comes up. -/
theorem rdo {P : Program} {md : Region.Mode} {ops : Array Oper} {Q : Exit → Act → World → Prop} {S : World → Prop} {i : Nat} {o : Oper} {fuel : Nat} {listed : Array Bool} {a : Act} {w : World} (ho : ops[i]? = some o)
    (h : ∀ K' : Act → World → Prop, Shut (∀ a w, S w → (S w → wpAnyH P md ops Q S fuel (listed.setIfInBounds i true) a w) → K' a w) → if Region.wanted o (yielded ops a.tmps) = true then Oper.wp P o a w K' Q else K' (a.put o.dst undef) w)
    (hr : Region.ready md ops listed = [i] := by kernel_rfl) : wpAnyH P md ops Q S (fuel + 1) listed a w := wpAnyH_ready hr (by simp) (AllReadyH.cons ho h AllReadyH.nil)
theorem data_256o {c : Cfg} (h : c.may) : c.data ≤ 256 := by
  have h1 := h.fits.mul
  have h2 := h.fits.bl
  unfold Cfg.data
  omega
/-- The data block that the law looks at. -/
def clampB (c : Cfg) (b : Int) : Nat := (max (min b (c.data - 1)) 0).toNat
theorem clamp_lt {c : Cfg} (h : c.may) (b : Int) : clampB c b < c.data.toNat := by
  have := h.2
  unfold clampB; omega
theorem clamp_fits {c : Cfg} {n : Nt} (h : fits c n) : clampB c n.b = n.b.toNat := by
  have h1 := (blk_lt h).1
  have h2 := h.2.2
  unfold clampB; omega
theorem take_ok {c : Cfg} {H : Hm} {n : Nt} (h : ready c H n = 0) : (take c H n).2.2 = 0 := by
  unfold take
  rw [if_neg (fun e => e h)]
  split
  · split <;> rfl
  · split
    · rfl
    · split
      · rfl
      · dsimp only; split
        · rfl
        · split <;> rfl
/-- What goes out of a home when a note is taken, as the law asks. -/
theorem owned_facts {c : Cfg} {H : Hm} (h : Inv c H) (n : Nt) (hw : Word n) (hr : ready c H n = 0) :
    (∀ x ∈ (take c H n).2.1, x.f = -1 ∧ x.b = n.b) ∧
    (∀ x ∈ (take c H n).2.1, x.k = 7 → n.k = 10 → (take c H n).2.1.length = 1 → enOf (take c H n).1 (clampB c n.b) = enOf H (clampB c n.b)) ∧
    (∀ x rest, (take c H n).2.1 = x :: rest → x.k = 6 → (net n.k = 0 → 0 ≤ (enOf H (clampB c n.b)).o → (enOf H (clampB c n.b)).o = x.t) ∧ (x.s ≠ 1 → enOf (take c H n).1 (clampB c n.b) = ⟨x.t, 0⟩)) := by
  obtain ⟨hf, ht⟩ := ready_fits hr
  rw [clamp_fits hf]
  refine ⟨take_of h n hw, fun x hx h7 h10 hl => ?_, fun x rest ho hk => ⟨fun hn h0 => take_owner h n ⟨hf, ht, hn⟩ x rest ho hk h0, fun hs => take_good h n hw x rest ho hk hs⟩⟩
  obtain ⟨y, hy⟩ := List.length_eq_one_iff.1 hl
  rw [hy] at hx
  obtain rfl := List.mem_singleton.1 hx
  have := take_refused h n hw h10 x hy h7
  unfold enOf; rw [this]
/-- A variable of the law's own is written. -/
theorem Own.setVar {w w1 : World} {h : Nat} {c : Cfg} {F : Ft} {H : Hm} (O : Own w w1 h c F H) {B : Nat} {cs : Array Value} {t : TypeId} (hb : w1.heap[B]? = some (.cells cs t (0, 0))) (hn : ¬ F.own B) (h1 : t ≠ 86) (h2 : t ≠ 106) (h3 : t ≠ 29) (hB : w.heap.size ≤ B) (cs' : Array Value) : Own w (w1.setRow B cs') h c F H := by
  have A := O.at'
  refine ⟨A.other (grown_row _ _ _) hn (tyne hb A.blk h1) (tyne hb A.mem.blk h2) (fun cs fr e => tyne hb e h3 rfl), ?_, O.fresh⟩
  have g := O.old
  exact ⟨g.os, g.tape, g.output, by have := g.size; simp [World.setRow]; exact this, fun k hk _ => (setRow_other _ _ _ _ (by omega)).trans (g.block k hk (by simp))⟩
theorem ne_same (o s : Int) : ∀ w, (binOp .neq 47 (.agg #[.int .i64 o, .int .u32 s]) (.agg #[.int .i64 o, .int .u32 s])).run Tryd.prog w = .ok (.bool false) w := fun w => by
  rw [en.neE]; simp
/-- A note's first cells. -/
theorem note_cells {w : World} {g k : Nat} {n : Nt} (h : w.rangeAt g k (nt n)) : w.cell? ⟨g, k, none⟩ = some (.int .u8 n.k) ∧ w.cell? ⟨g, k + 1, none⟩ = some (.int .i64 n.f) ∧ w.cell? ⟨g, k + 2, none⟩ = some (.int .i64 n.t) ∧ w.cell? ⟨g, k + 3, none⟩ = some (.int .i64 n.b) ∧ w.cell? ⟨g, k + 5, none⟩ = some (.int .u8 n.s) :=
  ⟨h 0 _ rfl, h 1 _ rfl, h 2 _ rfl, h 3 _ rfl, h 5 _ rfl⟩
set_option maxRecDepth 1000000 in
set_option maxHeartbeats 40000000 in
theorem owned_long (c : Cfg) (ad : Option Addr) (len cap : Nat) (w : World) (T : Tabs w) (h : 300 < len) : Calls Tryd.prog 5 #[.agg c.cells, .slice ad len cap] w fun e w' => e = .returned (.bool true) ∧ w.grownBy w' none := by
  have hd : decide ((300 : Int) < (len : Int)) = true := by simp; omega
  have hg0 : w.grownBy (w.alloc (.cells c.cells 40)) none := grown_alloc (grown_refl _ _) _
  have HW : Hid (∀ w', w.grownBy w' none → _) := Lib.hid (fun w' h => works_any w' (T.grown h))
  have HG0 := Lib.hid hg0
  have HA := Lib.hid (tt.cfg_at w c)
  obtain ⟨c0, c1, c2, c3, c4, c5, c6, c7⟩ := HA.out
  clear T h hg0
  unfold Cfg.cells at *
  go_enter Tryd.func5, Tryd.ntmps5
  go_wp2_with (go_at_call 11; ((with_reducible refine (HW.out _ HG0.out).mono ?_); rintro e w3 ⟨rfl, hgw3⟩; have Gw3 := Lib.hid (grown_trans HG0.out hgw3); clear hgw3))
  go_ret
  exact ⟨rfl, Gw3.out⟩
set_option maxRecDepth 1000000 in
set_option maxHeartbeats 40000000 in
theorem owned_no (c : Cfg) (ad : Option Addr) (len cap : Nat) (w : World) (T : Tabs w) (h : len ≤ 300) (hm : ¬ c.may) : Calls Tryd.prog 5 #[.agg c.cells, .slice ad len cap] w fun e w' => e = .returned (.bool true) ∧ w.grownBy w' none := by
  have hd : decide ((300 : Int) < (len : Int)) = false := by simp; omega
  have hg0 : w.grownBy (w.alloc (.cells c.cells 40)) none := grown_alloc (grown_refl _ _) _
  have HW : Hid (∀ w', w.grownBy w' none → _) := Lib.hid (fun w' h => works_any w' (T.grown h))
  have HG0 := Lib.hid hg0
  have HA := Lib.hid (tt.cfg_at w c)
  have HMY := Lib.hid (tt.may_any c _ (T.grown hg0).t)
  rw [tt.yes_not hm] at HMY
  obtain ⟨c0, c1, c2, c3, c4, c5, c6, c7⟩ := HA.out
  clear T h hm hg0
  unfold Cfg.cells at *
  go_enter Tryd.func5, Tryd.ntmps5
  go_wp2_with (first
    | (go_at_call 21; ((with_reducible refine HMY.out.mono ?_); rintro e w2 ⟨rfl, hg2⟩; have HG2 := Lib.hid (grown_trans HG0.out hg2); clear hg2))
    | (go_at_call 11; ((with_reducible refine (HW.out _ HG2.out).mono ?_); rintro e w3 ⟨rfl, hgw3⟩; have Gw3 := Lib.hid (grown_trans HG2.out hgw3); clear hgw3)))
  go_ret
  exact ⟨rfl, Gw3.out⟩
set_option maxRecDepth 1000000 in
set_option maxHeartbeats 40000000 in
theorem owned_some (c : Cfg) (ad : Option Addr) (len cap : Nat) (w : World) (T : Tabs w) (ns : List Nt) (hlen : len = ns.length) (hat : NotesAt w ad ns) (hw : ∀ n ∈ ns, Word n) (h0 : len ≤ 300) (hm : c.may) : Calls Tryd.prog 5 #[.agg c.cells, .slice ad len cap] w fun e w' => e = .returned (.bool true) ∧ w.grownBy w' none := by
  have hd : decide ((300 : Int) < (len : Int)) = false := by simp; omega
  have hg0 : w.grownBy (w.alloc (.cells c.cells 40)) none := grown_alloc (grown_refl _ _) _
  have HW : Hid (∀ w', w.grownBy w' none → _) := Lib.hid (fun w' h => works_any w' (T.grown h))
  have HG0 := Lib.hid hg0
  have HA := Lib.hid (tt.cfg_at w c)
  have HMY := Lib.hid (tt.may_any c _ (T.grown hg0).t)
  rw [tt.yes_of hm] at HMY
  have HMN : Hid (∀ w, _) := Lib.hid fun w => mem_new hm w
  have HN : Hid (∀ w1 mb mv, (w.alloc (.cells c.cells 40)).grownBy w1 none → pp.Mem w1 mb mv (m0 c) → (∀ i, mv.ownBlock = some i → (w.alloc (.cells c.cells 40)).heap.size ≤ i) → _) := Lib.hid fun w1 mb mv hg hM hv => own_new (T.grown hg0) hg hM hv hm (m0_len hm)
  have HT := Lib.hid (T.grown hg0)
  have HDT := Lib.hid fun (w' : World) (h' : w.grownBy w' none) => tt.data_yes c w' (T.grown h').t hm
  have HMAY := Lib.hid hm
  obtain ⟨D, hD⟩ : ∃ D, c.data = D := ⟨_, rfl⟩
  rw [hD] at HDT
  have HDE := Lib.hid hD
  have HD1 : Hid (1 ≤ D ∧ D ≤ 256) := Lib.hid (by have := hm.2; have := data_256o hm; omega)
  clear hD
  have HAT := Lib.hid (fun w' (h : (w.alloc (.cells c.cells 40)).grownBy w' none) => (hat.grown hg0).grown h)
  have HL := Lib.hid hlen
  have HW1 := Lib.hid hw
  have HH0 := Lib.hid h0
  obtain ⟨c0, c1, c2, c3, c4, c5, c6, c7⟩ := HA.out
  clear T h0 hm hg0 hat hlen hw
  unfold Cfg.cells at HN HG0 HA HMY HDT HT HAT c0 c1 c2 c3 c4 c5 c6 c7 ⊢
  go_enter Tryd.func5, Tryd.ntmps5
  go_wp2_with (first
    | (go_at_call 21; ((with_reducible refine HMY.out.mono ?_); rintro e w2 ⟨rfl, hg2⟩; obtain ⟨d0, d1, d2, d3, d4, d5, d6, d7⟩ := HA.out.grown hg2; have HG2 := Lib.hid hg2; clear hg2 c0 c1 c2 c3 c4 c5 c6 c7))
    | (go_at_call 22; ((with_reducible refine (HMN.out _).mono ?_); rintro e w3 ⟨mb, mv, rfl, hM, hg3, hmb, hmv⟩; have HG3 := Lib.hid (grown_trans HG2.out hg3); obtain ⟨c0, c1, c2, c3, c4, c5, c6, c7⟩ := HA.out.grown HG3.out; have HM := Lib.hid hM; have HV := Lib.hid (fun i hi => Nat.le_trans HG2.out.size (hmv i hi)); clear hg3 hM hmb hmv d0 d1 d2 d3 d4 d5 d6 d7))
    | (go_at_call 14; ((with_reducible refine (HN.out _ mb mv HG3.out HM.out HV.out).mono ?_); rintro e w4 ⟨h, F, rfl, hO, _, _, _⟩; have HO := Lib.hid hO; clear hO c0 c1 c2 c3 c4 c5 c6 c7)))
  clear HN HMN HMY HM HV HG3 HG2
  obtain ⟨wz, hwz⟩ : ∃ x, w.alloc (.cells #[.int .i64 c.co, .int .i64 c.se, .int .i64 c.wa, .int .i64 c.bl, .int .i64 c.lo, .int .i64 c.ba, .int .i64 c.ne, .int .i64 c.tr] 40) = x := ⟨_, rfl⟩
  rw [hwz] at HO HG0 HA HT HAT
  clear hwz
  obtain ⟨H0, hH0⟩ : ∃ H0, H0 = new c (m0 c) := ⟨_, rfl⟩
  rw [← hH0] at HO
  clear hH0
  go_loopw [49] (fun i wr => ∃ (j : Nat) (F : Ft), j ≤ len ∧ i = .int .i64 (j : Int) ∧ Own wz wr h c F (stOf c H0 (ns.take j))) (fun i _ => len - (intOf i).toNat)
  case atStart => exact ⟨0, F, Nat.zero_le _, rfl, HO.out⟩
  case round =>
    clear HO
    obtain ⟨j, F1, hj, rfl, ho⟩ := hrel
    have HO := Lib.hid ho
    clear ho
    have hj300 : j ≤ 300 := by have := HH0.out; omega
    by_cases hlt : j < len
    · obtain ⟨n, hn⟩ : ∃ n, ns[j]? = some n := ⟨_, List.getElem?_eq_getElem (by have := HL.out; omega)⟩
      obtain ⟨b, off, rfl, hr⟩ := HAT.out _ HO.out.old j n hn
      have HR := Lib.hid hr
      have HN := Lib.hid hn
      have HWN := Lib.hid (HW1.out n (List.mem_of_getElem? hn))
      clear hn hr
      obtain ⟨H1, hH1⟩ : ∃ x, x = stOf c H0 (ns.take j) := ⟨_, rfl⟩
      rw [← hH1] at HO
      have HH1 := Lib.hid hH1
      clear hH1
      go_wp2_with (first
        | ((with_reducible refine tt.load_na n _ b (off + j * 24) ?_ HR.out ?_); (rfl))
        | ((with_reducible refine tt.store_new n _ _ _ ?_ ?_ ?_ ?_); (rfl); (rfl); (rfl)))
      obtain ⟨BN, hBN⟩ : ∃ B, wr.heap.size = B := ⟨_, rfl⟩
      obtain ⟨wa, hwa⟩ : ∃ x, wr.alloc (.cells (na n) 31) = x := ⟨_, rfl⟩
      obtain ⟨BE, hBE⟩ : ∃ B, BN + 1 = B := ⟨_, rfl⟩
      obtain ⟨wb, hwb⟩ : ∃ x, wa.alloc (.cells #[.int .i64 0, .int .u32 0] 47) = x := ⟨_, rfl⟩
      have hsa : wa.heap.size = BE := by rw [← hwa, World.size_alloc, hBN, hBE]
      have hga : wr.grownBy wa none := by rw [← hwa]; exact grown_alloc (grown_refl _ _) _
      have hgb : wa.grownBy wb none := by rw [← hwb]; exact grown_alloc (grown_refl _ _) _
      have hBNa : wa.heap[BN]? = some (.cells (na n) 31 (0, 0)) := by rw [← hwa, ← hBN]; exact heap_alloc_new _ _
      have HXN := Lib.hid (row_up hBNa hgb)
      have HBNE : Hid (BN ≠ BE) := Lib.hid (by omega)
      have HXE : Hid (wb.heap[BE]? = some (.cells #[.int .i64 0, .int .u32 0] 47 (0, 0))) := Lib.hid (by rw [← hwb, ← hsa]; exact heap_alloc_new _ _)
      have HOB := Lib.hid (HO.out.grown (grown_trans hga hgb))
      have HNN : Hid (¬ F1.own BN) := Lib.hid (fun e => by have := HO.out.at'.own_lt e; omega)
      have HNE : Hid (¬ F1.own BE) := Lib.hid (fun e => by have := HO.out.at'.own_lt e; omega)
      have HZN : Hid (wz.heap.size ≤ BN ∧ wz.heap.size ≤ BE) := Lib.hid (by have := HO.out.old.size; omega)
      rw [hBN, hwa, hBE, hwb]
      have HL26 := Lib.hid (take_len HO.out.at' n)
      clear hBN hwa hBE hwb hsa hga hgb hBNa HO
      obtain ⟨BB, hBB⟩ : ∃ x, x = clampB c n.b := ⟨_, rfl⟩
      have HBB := Lib.hid hBB
      have HBL : Hid (BB < c.data.toNat) := Lib.hid (by rw [hBB]; exact clamp_lt HMAY.out n.b)
      have HS : Hid (∀ w', wb.grownBy w' none → w'.cell? ⟨BN, 3, none⟩ = some (.int .i64 n.b) ∧ _) := Lib.hid fun w' h' => ⟨by have := (note_cells (tt.range_of (row_up HXN.out h'))).2.2.2.1; rwa [Nat.zero_add] at this, (HA.out.grown (grown_trans HOB.out.old h')).limbs⟩
      have HDA := Lib.hid fun (w' : World) (h' : wb.grownBy w' none) => HDT.out w' (grown_trans HG0.out (grown_trans HOB.out.old h'))
      clear hBB
      have hmx : max (min n.b (IntKind.i64.wrap (D - 1))) 0 = (BB : Int) := by
        have := HD1.out
        rw [show IntKind.i64.wrap (D - 1) = D - 1 from IntWalk.i64_in _ (by omega), HBB.out]
        unfold clampB; rw [HDE.out]
        omega
      have HMX := Lib.hid hmx
      clear hmx
      have hD := HD1.out
      refine wp_region_held_drew (S := fun w' => wb.grownBy w' none) (by kernel_rfl) (tt.grown_drew (grown_refl _ _)) (fun hHeld => ?_)
      generalize wb.drew = wd at hHeld ⊢
      refine tko (i := 0) (oi := ⟨some 53, Op.fieldAddr 31 (Operand.tmp 10) 3, _, _, _, _⟩) (v := ?v1) rfl (Or.inl ⟨by rfl, ?hy1⟩) (by assumption) ?_
      case hy1 => ((intro w0 hSw; go_simp); try (with_reducible rfl))
      try simp only [Act.put, lay1, lay2, lay3]
      refine tko (i := 1) (oi := ⟨some 54, Op.load 3 (Operand.tmp 53), _, _, _, _⟩) (v := ?v2) rfl (Or.inl ⟨by rfl, ?hy2⟩) (by assumption) ?_
      case hy2 => ((intro w0 hSw; obtain ⟨hs0, hs1, hs2, hs3, hs4, hs5, hs6, hs7, hs8⟩ := HS.out w0 hSw; go_simp); try (with_reducible rfl))
      try simp only [Act.put, lay1, lay2, lay3]
      refine tko (i := 2) (oi := ⟨some 55, Op.load 40 (Operand.tmp 2), _, _, _, _⟩) (v := ?v3) rfl (Or.inl ⟨by rfl, ?hy3⟩) (by assumption) ?_
      case hy3 => ((intro w0 hSw; obtain ⟨hs0, hs1, hs2, hs3, hs4, hs5, hs6, hs7, hs8⟩ := HS.out w0 hSw; go_simp); try (with_reducible rfl))
      try simp only [Act.put, lay1, lay2, lay3]
      refine rdo (i := 3) (o := ⟨some 56, Op.call { callee := Callee.value (Operand.func 26), args := #[(Operand.tmp 55)], argTypes := #[40] }, _, _, _, _⟩) rfl (fun K hK => ?_)
      go_simp
      (with_reducible refine (HDA.out _ hHeld).mono ?_); rintro e wA ⟨rfl, hgA⟩; have HGA := Lib.hid (grown_trans hHeld hgA)
      refine hK.out _ _ HGA.out (fun hHeld => ?_)
      clear hK K
      try simp only [Act.put, lay1, lay2, lay3]
      refine tko (i := 4) (oi := ⟨some 57, Op.binOp BinOp.sub 3 (Operand.tmp 56) (Operand.const (Value.int IntKind.i64 1)) _, _, _, _, _⟩) (v := ?v4) rfl (Or.inl ⟨by rfl, ?hy4⟩) (by assumption) ?_
      case hy4 => ((intro w0 hSw; go_simp); try (with_reducible rfl))
      try simp only [Act.put, lay1, lay2, lay3]
      refine tko (i := 5) (oi := ⟨some 58, Op.call { callee := Callee.builtin Builtin.min, args := #[(Operand.tmp 54), (Operand.tmp 57)], argTypes := #[3, 3] }, _, _, _, _⟩) (v := ?v5) rfl (Or.inl ⟨by rfl, ?hy5⟩) (by assumption) ?_
      case hy5 => ((intro w0 hSw; go_simp); try (with_reducible rfl))
      try simp only [Act.put, lay1, lay2, lay3]
      refine tko (i := 6) (oi := ⟨some 59, Op.call { callee := Callee.builtin Builtin.max, args := #[(Operand.tmp 58), Operand.const (Value.int IntKind.i64 0)], argTypes := #[3, 3] }, _, _, _, _⟩) (v := ?v6) rfl (Or.inl ⟨by rfl, ?hy6⟩) (by assumption) ?_
      case hy6 => ((intro w0 hSw; go_simp); try (with_reducible rfl))
      try simp only [Act.put, lay1, lay2, lay3]
      refine tko (i := 7) (oi := ⟨some 12, Op.assign (Operand.tmp 59), _, _, _, _⟩) (v := ?v7) rfl (Or.inl ⟨by rfl, ?hy7⟩) (by assumption) ?_
      case hy7 => ((intro w0 hSw; go_simp); try (with_reducible rfl))
      try simp only [Act.put, lay1, lay2, lay3]
      refine wpAnyH_done (by kernel_rfl) ?_ _
      rw [HMX.out]
      clear HMX HS HDA hD
      have HOA := Lib.hid (HOB.out.grown HGA.out)
      have HXA := Lib.hid (row_up HXN.out HGA.out)
      have HEA := Lib.hid (row_up HXE.out HGA.out)
      have HE1 := Lib.hid (entry_in HOA.out.at' BB (by rw [HOA.out.at'.inv.le]; exact HBL.out))
      obtain ⟨eo, heo⟩ : ∃ x, (enOf H1 BB).o = x := ⟨_, rfl⟩
      obtain ⟨es, hes⟩ : ∃ x, ((enOf H1 BB).s : Int) = x := ⟨_, rfl⟩
      rw [heo, hes] at HE1
      have HEO := Lib.hid heo
      have HES := Lib.hid hes
      clear HOB HXN HXE HGA heo hes
      by_cases hr : ready c H1 n = 0
      · have HR0 := Lib.hid hr
        have HF := Lib.hid (owned_facts HOA.out.at'.inv n HWN.out hr)
        rw [← HBB.out] at HF
        clear hr
        go_wp2_with (first
          | (go_at_call 17; ((with_reducible refine HE1.out.mono ?_); rintro e w5 ⟨rfl, hg5⟩; have HE5 := Lib.hid (row_up HEA.out hg5); have HO5 := Lib.hid (HOA.out.grown hg5); have HX5 := Lib.hid (row_up HXA.out hg5); clear hg5))
          | ((with_reducible refine en.store_en eo es _ _ _ _ BE ?_ ?_ HE5.out ?_ ?_); (rfl); (rfl); (rfl); obtain ⟨w6, hw6⟩ : ∃ x, w5.setRow BE #[.int .i64 eo, .int .u32 es] = x := ⟨_, rfl⟩; have HO6 := Lib.hid (hw6 ▸ HO5.out.setVar HE5.out HNE.out (by decide) (by decide) (by decide) HZN.out.2 #[.int .i64 eo, .int .u32 es]); have HE6 : Hid (w6.heap[BE]? = some (.cells #[.int .i64 eo, .int .u32 es] 47 (0, 0))) := Lib.hid (by rw [← hw6]; exact setRow_heap _ _ _ _ _ _ HE5.out); have HX6 : Hid (w6.heap[BN]? = some (.cells (na n) 31 (0, 0))) := Lib.hid (by rw [← hw6]; exact (setRow_other _ _ _ _ HBNE.out).trans HX5.out); have HTK := Lib.hid (own_take HT.out HO6.out n HWN.out); rw [hw6]; clear hw6; rw [(take_ok HR0.out : (take c H1 n).2.2 = 0)] at HTK; obtain ⟨o1, ho1⟩ : ∃ x, x = take c H1 n := ⟨_, rfl⟩; rw [← ho1] at HTK HF; have HO1 := Lib.hid ho1; clear ho1)
          | ((with_reducible refine tt.load_nt n _ BN ?_ (tt.range_of HX6.out) ?_); (rfl))
          | (go_at_call 16; ((with_reducible refine HTK.out.mono ?_); rintro e w7 ⟨F2, v, rfl, ho, hS, hD, _⟩; have HO7 := Lib.hid ho; have HE7 := Lib.hid (hD.heap HE6.out HNE.out); have HX7 := Lib.hid (hD.heap HX6.out HNN.out); have HE2 := Lib.hid (entry_in HO7.out.at' BB (by rw [HO7.out.at'.inv.le]; exact HBL.out)); obtain ⟨no, hno⟩ : ∃ x, (enOf o1.1 BB).o = x := ⟨_, rfl⟩; obtain ⟨nz, hnz⟩ : ∃ x, ((enOf o1.1 BB).s : Int) = x := ⟨_, rfl⟩; rw [hno, hnz] at HE2; have HNO := Lib.hid hno; have HNZ := Lib.hid hnz; clear hno hnz; obtain ⟨adv, capv, hv⟩ := hS.form; obtain ⟨lo, hlo⟩ : ∃ q, q = o1.2.1.length := ⟨_, rfl⟩; rw [← hlo] at hv; subst hv; have HLO := Lib.hid hlo; clear hlo; have HV7 := Lib.hid hS; clear ho hS hD))
          | (go_at_call 17; ((with_reducible refine HE2.out.mono ?_); rintro e w8 ⟨rfl, hg8⟩; have HO8 := Lib.hid (HO7.out.grown hg8); have HE8 := Lib.hid (row_up HE7.out hg8); have HX8 := Lib.hid (row_up HX7.out hg8); have HV8 := Lib.hid (HV7.out.grown hg8); clear hg8))
          | ((with_reducible refine en.store_enN no nz _ _ _ _ ?_ ?_ ?_ ?_); (rfl); (rfl); (rfl); obtain ⟨BW, hBW⟩ : ∃ B, w8.heap.size = B := ⟨_, rfl⟩; obtain ⟨w9, hw9⟩ : ∃ x, w8.alloc (.cells #[.int .i64 no, .int .u32 nz] 47) = x := ⟨_, rfl⟩; have hg9 : w8.grownBy w9 none := (by rw [← hw9]; exact grown_alloc (grown_refl _ _) _); have HW9 : Hid (w9.heap[BW]? = some (.cells #[.int .i64 no, .int .u32 nz] 47 (0, 0))) := Lib.hid (by rw [← hw9, ← hBW]; exact heap_alloc_new _ _); have HO9 := Lib.hid (HO8.out.grown hg9); have HE9 := Lib.hid (row_up HE8.out hg9); have HX9 := Lib.hid (row_up HX8.out hg9); have HV9 := Lib.hid (HV8.out.grown hg9); rw [hw9, hBW]; clear hw9 hBW hg9))
        clear HE1 HE2 HTK HEA HXA HOA HO5 HO6 HO7 HO8 HE5 HE6 HE7 HE8 HX5 HX6 HX7 HX8 HV7 HV8
        go_loopw [92] (fun i wq => ∃ k : Nat, k ≤ lo ∧ i = .int .i64 (k : Int) ∧ w9.grownBy wq none) (fun i _ => lo - (intOf i).toNat)
        case atStart => exact ⟨0, Nat.zero_le _, rfl, grown_refl _ _⟩
        case round =>
          obtain ⟨k, hk, rfl, hgq⟩ := hrel
          have HGQ := Lib.hid hgq
          clear hgq
          have hlo32 : lo ≤ 2641 := by rw [HLO.out, HO1.out]; exact HL26.out
          by_cases hlk : k < lo
          · obtain ⟨x, hx⟩ : ∃ x, o1.2.1[k]? = some x := ⟨_, List.getElem?_eq_getElem (by have := HLO.out; omega)⟩
            obtain ⟨g, off, rfl, hml, hr⟩ := tt.nsl_at (HV9.out.grown HGQ.out) k x hx
            have HRX := Lib.hid hr
            obtain ⟨hxf, hxb⟩ := HF.out.1 x (List.mem_of_getElem? hx)
            have HX7 := Lib.hid (HF.out.2.1 x (List.mem_of_getElem? hx))
            have HXF := Lib.hid hxf
            have HXB := Lib.hid hxb
            clear hr hx hxf hxb hml
            by_cases h7 : x.k = 7
            · by_cases h10 : n.k = 10
              · by_cases h1 : lo = 1
                · have he := HX7.out h7 h10 (by rw [← HLO.out]; exact h1)
                  have hq1 : no = eo := by rw [← HNO.out, he]; exact HEO.out
                  have hq2 : nz = es := by rw [← HNZ.out, he]; exact HES.out
                  have HH7 := Lib.hid h7
                  have HH10 := Lib.hid h10
                  have hl1 : ((lo : Int) == 1) = true := by simp [h1]
                  have hne := ne_same eo es
                  rw [hq1, hq2] at HW9
                  clear h7 h10 h1 he hq1 hq2 HX7
                  as_aux_lemma =>
                    go_wp2_with (first
                      | ((with_reducible refine tt.load_na x _ g (off + k * 24) ?_ HRX.out ?_); (rfl))
                      | ((with_reducible refine tt.store_new x _ _ _ ?_ ?_ ?_ ?_); (rfl); (rfl); (rfl); obtain ⟨BX, hBX⟩ : ∃ B, wr.heap.size = B := ⟨_, rfl⟩; obtain ⟨wx, hwx⟩ : ∃ y, wr.alloc (.cells (na x) 31) = y := ⟨_, rfl⟩; have hgx : wr.grownBy wx none := (by rw [← hwx]; exact grown_alloc (grown_refl _ _) _); have HGX := Lib.hid (grown_trans HGQ.out hgx); obtain ⟨x0, x1, _, x3, _⟩ := note_cells (tt.range_of (by rw [← hwx, ← hBX]; exact heap_alloc_new _ _ : wx.heap[BX]? = some (.cells (na x) 31 (0, 0)))); obtain ⟨n0, _, _, n3, _⟩ := note_cells (tt.range_of (row_up HX9.out HGX.out)); rw [Nat.zero_add] at x1 x3 n3; rw [HXF.out] at x1; rw [HXB.out] at x3; rw [HH7.out] at x0; rw [HH10.out] at n0; obtain ⟨e0, e1⟩ := en.cells2 (row_up HE9.out HGX.out); obtain ⟨e2, e3⟩ := en.cells2 (row_up HW9.out HGX.out); rw [hwx, hBX]; clear hBX hwx hgx))
                    go_roundw
                    case rel => exact ⟨k + 1, by omega, by go_num, HGX.out⟩
                    case measure => simp [intOf]; omega
                · have HH7 := Lib.hid h7
                  have HH10 := Lib.hid h10
                  have hl1 : ((lo : Int) == 1) = false := by simp; omega
                  clear h7 h10 h1 HX7
                  as_aux_lemma =>
                    go_wp2_with (first
                      | ((with_reducible refine tt.load_na x _ g (off + k * 24) ?_ HRX.out ?_); (rfl))
                      | ((with_reducible refine tt.store_new x _ _ _ ?_ ?_ ?_ ?_); (rfl); (rfl); (rfl); obtain ⟨BX, hBX⟩ : ∃ B, wr.heap.size = B := ⟨_, rfl⟩; obtain ⟨wx, hwx⟩ : ∃ y, wr.alloc (.cells (na x) 31) = y := ⟨_, rfl⟩; have hgx : wr.grownBy wx none := (by rw [← hwx]; exact grown_alloc (grown_refl _ _) _); have HGX := Lib.hid (grown_trans HGQ.out hgx); obtain ⟨x0, x1, _, x3, _⟩ := note_cells (tt.range_of (by rw [← hwx, ← hBX]; exact heap_alloc_new _ _ : wx.heap[BX]? = some (.cells (na x) 31 (0, 0)))); obtain ⟨n0, _, _, n3, _⟩ := note_cells (tt.range_of (row_up HX9.out HGX.out)); rw [Nat.zero_add] at x1 x3 n3; rw [HXF.out] at x1; rw [HXB.out] at x3; rw [HH7.out] at x0; rw [HH10.out] at n0; rw [hwx, hBX]; clear hBX hwx hgx))
                    go_roundw
                    case rel => exact ⟨k + 1, by omega, by go_num, HGX.out⟩
                    case measure => simp [intOf]; omega
              · have HH7 := Lib.hid h7
                have hl1 : (n.k == 10) = false := by simpa using h10
                clear h7 h10 HX7
                as_aux_lemma =>
                  go_wp2_with (first
                    | ((with_reducible refine tt.load_na x _ g (off + k * 24) ?_ HRX.out ?_); (rfl))
                    | ((with_reducible refine tt.store_new x _ _ _ ?_ ?_ ?_ ?_); (rfl); (rfl); (rfl); obtain ⟨BX, hBX⟩ : ∃ B, wr.heap.size = B := ⟨_, rfl⟩; obtain ⟨wx, hwx⟩ : ∃ y, wr.alloc (.cells (na x) 31) = y := ⟨_, rfl⟩; have hgx : wr.grownBy wx none := (by rw [← hwx]; exact grown_alloc (grown_refl _ _) _); have HGX := Lib.hid (grown_trans HGQ.out hgx); obtain ⟨x0, x1, _, x3, _⟩ := note_cells (tt.range_of (by rw [← hwx, ← hBX]; exact heap_alloc_new _ _ : wx.heap[BX]? = some (.cells (na x) 31 (0, 0)))); obtain ⟨n0, _, _, n3, _⟩ := note_cells (tt.range_of (row_up HX9.out HGX.out)); rw [Nat.zero_add] at x1 x3 n3; rw [HXF.out] at x1; rw [HXB.out] at x3; rw [HH7.out] at x0; rw [hwx, hBX]; clear hBX hwx hgx))
                  go_roundw
                  case rel => exact ⟨k + 1, by omega, by go_num, HGX.out⟩
                  case measure => simp [intOf]; omega
            · have hl1 : (x.k == 7) = false := by simpa using h7
              clear h7 HX7
              as_aux_lemma =>
                go_wp2_with (first
                  | ((with_reducible refine tt.load_na x _ g (off + k * 24) ?_ HRX.out ?_); (rfl))
                  | ((with_reducible refine tt.store_new x _ _ _ ?_ ?_ ?_ ?_); (rfl); (rfl); (rfl); obtain ⟨BX, hBX⟩ : ∃ B, wr.heap.size = B := ⟨_, rfl⟩; obtain ⟨wx, hwx⟩ : ∃ y, wr.alloc (.cells (na x) 31) = y := ⟨_, rfl⟩; have hgx : wr.grownBy wx none := (by rw [← hwx]; exact grown_alloc (grown_refl _ _) _); have HGX := Lib.hid (grown_trans HGQ.out hgx); obtain ⟨x0, x1, _, x3, _⟩ := note_cells (tt.range_of (by rw [← hwx, ← hBX]; exact heap_alloc_new _ _ : wx.heap[BX]? = some (.cells (na x) 31 (0, 0)))); obtain ⟨n0, _, _, n3, _⟩ := note_cells (tt.range_of (row_up HX9.out HGX.out)); rw [Nat.zero_add] at x1 x3 n3; rw [HXF.out] at x1; rw [HXB.out] at x3; rw [hwx, hBX]; clear hBX hwx hgx))
                go_roundw
                case rel => exact ⟨k + 1, by omega, by go_num, HGX.out⟩
                case measure => simp [intOf]; omega
          · have hk' : k = lo := by omega
            subst hk'
            clear hk hlk
            obtain ⟨wy, rfl⟩ : ∃ x, x = wr := ⟨wr, rfl⟩
            cases ho : o1.2.1 with
            | nil =>
              have hl0 : k = 0 := by rw [HLO.out, ho]; rfl
              have hl1 : decide (0 < k) = false := by simp; omega
              clear ho hl0
              go_wp2_with fail
              as_aux_lemma =>
                refine wp_region_held_drew (S := fun w' => wy.grownBy w' none) (by kernel_rfl) (tt.grown_drew (grown_refl _ _)) (fun hHeld => ?_)
                generalize wy.drew = wd2 at hHeld ⊢
                refine tko (i := 0) (oi := ⟨some 135, Op.move (Operand.tmp 19), _, _, _, _⟩) (v := ?v8) rfl (Or.inl ⟨by rfl, ?hy8⟩) (by assumption) ?_
                case hy8 => ((intro w0 hSw; go_simp); try (with_reducible rfl))
                try simp only [Act.put, lay1, lay2, lay3]
                refine tko (i := 1) (oi := ⟨some 136, Op.move (Operand.tmp 135), _, _, _, _⟩) (v := ?v9) rfl (Or.inl ⟨by rfl, ?hy9⟩) (by assumption) ?_
                case hy9 => ((intro w0 hSw; go_simp); try (with_reducible rfl))
                try simp only [Act.put, lay1, lay2, lay3]
                refine tko (i := 2) (oi := ⟨some 137, Op.fieldAddr 31 (Operand.tmp 10) 0, _, _, _, _⟩) (v := undef) rfl (Or.inr ⟨by rfl, rfl⟩) (by assumption) ?_
                try simp only [Act.put, lay1, lay2, lay3]
                refine tko (i := 3) (oi := ⟨some 138, Op.load 5 (Operand.tmp 137), _, _, _, _⟩) (v := undef) rfl (Or.inr ⟨by rfl, rfl⟩) (by assumption) ?_
                try simp only [Act.put, lay1, lay2, lay3]
                refine tko (i := 4) (oi := ⟨some 139, Op.call { callee := Callee.value (Operand.func 23), args := #[(Operand.tmp 138)], argTypes := #[5] }, _, _, _, _⟩) (v := undef) rfl (Or.inr ⟨by rfl, rfl⟩) (by assumption) ?_
                try simp only [Act.put, lay1, lay2, lay3]
                refine tko (i := 5) (oi := ⟨some 140, Op.binOp BinOp.eql 3 (Operand.tmp 139) (Operand.const (Value.int IntKind.i64 0)) _, _, _, _, _⟩) (v := undef) rfl (Or.inr ⟨by rfl, rfl⟩) (by assumption) ?_
                try simp only [Act.put, lay1, lay2, lay3]
                refine tko (i := 6) (oi := ⟨some 141, Op.pick (Operand.tmp 136) (Operand.tmp 140) (Operand.const (Value.bool false)), _, _, _, _⟩) (v := ?v14) rfl (Or.inl ⟨by rfl, ?hy14⟩) (by assumption) ?_
                case hy14 => ((intro w0 hSw; go_simp); try (with_reducible rfl))
                try simp only [Act.put, lay1, lay2, lay3]
                refine tko (i := 7) (oi := ⟨some 142, Op.move (Operand.tmp 141), _, _, _, _⟩) (v := ?v15) rfl (Or.inl ⟨by rfl, ?hy15⟩) (by assumption) ?_
                case hy15 => ((intro w0 hSw; go_simp); try (with_reducible rfl))
                try simp only [Act.put, lay1, lay2, lay3]
                refine tko (i := 8) (oi := ⟨some 143, Op.fieldAddr 47 (Operand.tmp 11) 0, _, _, _, _⟩) (v := undef) rfl (Or.inr ⟨by rfl, rfl⟩) (by assumption) ?_
                try simp only [Act.put, lay1, lay2, lay3]
                refine tko (i := 9) (oi := ⟨some 144, Op.load 3 (Operand.tmp 143), _, _, _, _⟩) (v := undef) rfl (Or.inr ⟨by rfl, rfl⟩) (by assumption) ?_
                try simp only [Act.put, lay1, lay2, lay3]
                refine tko (i := 10) (oi := ⟨some 145, Op.binOp BinOp.geq 3 (Operand.tmp 144) (Operand.const (Value.int IntKind.i64 0)) _, _, _, _, _⟩) (v := undef) rfl (Or.inr ⟨by rfl, rfl⟩) (by assumption) ?_
                try simp only [Act.put, lay1, lay2, lay3]
                refine tko (i := 11) (oi := ⟨some 146, Op.pick (Operand.tmp 142) (Operand.tmp 145) (Operand.const (Value.bool false)), _, _, _, _⟩) (v := ?v19) rfl (Or.inl ⟨by rfl, ?hy19⟩) (by assumption) ?_
                case hy19 => ((intro w0 hSw; go_simp); try (with_reducible rfl))
                try simp only [Act.put, lay1, lay2, lay3]
                refine tko (i := 12) (oi := ⟨some 147, Op.move (Operand.tmp 146), _, _, _, _⟩) (v := ?v20) rfl (Or.inl ⟨by rfl, ?hy20⟩) (by assumption) ?_
                case hy20 => ((intro w0 hSw; go_simp); try (with_reducible rfl))
                try simp only [Act.put, lay1, lay2, lay3]
                refine tko (i := 13) (oi := ⟨some 148, Op.fieldAddr 47 (Operand.tmp 11) 0, _, _, _, _⟩) (v := undef) rfl (Or.inr ⟨by rfl, rfl⟩) (by assumption) ?_
                try simp only [Act.put, lay1, lay2, lay3]
                refine tko (i := 14) (oi := ⟨some 149, Op.load 3 (Operand.tmp 148), _, _, _, _⟩) (v := undef) rfl (Or.inr ⟨by rfl, rfl⟩) (by assumption) ?_
                try simp only [Act.put, lay1, lay2, lay3]
                refine tko (i := 15) (oi := ⟨some 150, Op.move (Operand.tmp 13), _, _, _, _⟩) (v := undef) rfl (Or.inr ⟨by rfl, rfl⟩) (by assumption) ?_
                try simp only [Act.put, lay1, lay2, lay3]
                refine tko (i := 16) (oi := ⟨some 151, Op.indexAddr 42 (Operand.tmp 150) (Operand.const (Value.int IntKind.i64 0)), _, _, _, _⟩) (v := undef) rfl (Or.inr ⟨by rfl, rfl⟩) (by assumption) ?_
                try simp only [Act.put, lay1, lay2, lay3]
                refine tko (i := 17) (oi := ⟨some 152, Op.fieldAddr 31 (Operand.tmp 151) 2, _, _, _, _⟩) (v := undef) rfl (Or.inr ⟨by rfl, rfl⟩) (by assumption) ?_
                try simp only [Act.put, lay1, lay2, lay3]
                refine tko (i := 18) (oi := ⟨some 153, Op.load 3 (Operand.tmp 152), _, _, _, _⟩) (v := undef) rfl (Or.inr ⟨by rfl, rfl⟩) (by assumption) ?_
                try simp only [Act.put, lay1, lay2, lay3]
                refine tko (i := 19) (oi := ⟨some 154, Op.binOp BinOp.neq 3 (Operand.tmp 149) (Operand.tmp 153) _, _, _, _, _⟩) (v := undef) rfl (Or.inr ⟨by rfl, rfl⟩) (by assumption) ?_
                try simp only [Act.put, lay1, lay2, lay3]
                refine tko (i := 20) (oi := ⟨some 155, Op.pick (Operand.tmp 147) (Operand.tmp 154) (Operand.const (Value.bool false)), _, _, _, _⟩) (v := ?v28) rfl (Or.inl ⟨by rfl, ?hy28⟩) (by assumption) ?_
                case hy28 => ((intro w0 hSw; go_simp); try (with_reducible rfl))
                try simp only [Act.put, lay1, lay2, lay3]
                refine wpAnyH_done (by kernel_rfl) ?_ _
                go_wp2_with fail
                have HGD := Lib.hid hHeld
                clear hHeld
                refine wp_region_held_drew (S := fun w' => wy.grownBy w' none) (by kernel_rfl) (tt.grown_drew HGD.out) (fun hHeld => ?_)
                generalize World.drew _ = wd3 at hHeld ⊢
                refine tko (i := 0) (oi := ⟨some 156, Op.move (Operand.tmp 19), _, _, _, _⟩) (v := ?v29) rfl (Or.inl ⟨by rfl, ?hy29⟩) (by assumption) ?_
                case hy29 => ((intro w0 hSw; go_simp); try (with_reducible rfl))
                try simp only [Act.put, lay1, lay2, lay3]
                refine tko (i := 1) (oi := ⟨some 157, Op.move (Operand.tmp 156), _, _, _, _⟩) (v := ?v30) rfl (Or.inl ⟨by rfl, ?hy30⟩) (by assumption) ?_
                case hy30 => ((intro w0 hSw; go_simp); try (with_reducible rfl))
                try simp only [Act.put, lay1, lay2, lay3]
                refine tko (i := 2) (oi := ⟨some 158, Op.move (Operand.tmp 13), _, _, _, _⟩) (v := undef) rfl (Or.inr ⟨by rfl, rfl⟩) (by assumption) ?_
                try simp only [Act.put, lay1, lay2, lay3]
                refine tko (i := 3) (oi := ⟨some 159, Op.indexAddr 42 (Operand.tmp 158) (Operand.const (Value.int IntKind.i64 0)), _, _, _, _⟩) (v := undef) rfl (Or.inr ⟨by rfl, rfl⟩) (by assumption) ?_
                try simp only [Act.put, lay1, lay2, lay3]
                refine tko (i := 4) (oi := ⟨some 160, Op.fieldAddr 31 (Operand.tmp 159) 5, _, _, _, _⟩) (v := undef) rfl (Or.inr ⟨by rfl, rfl⟩) (by assumption) ?_
                try simp only [Act.put, lay1, lay2, lay3]
                refine tko (i := 5) (oi := ⟨some 161, Op.load 26 (Operand.tmp 160), _, _, _, _⟩) (v := undef) rfl (Or.inr ⟨by rfl, rfl⟩) (by assumption) ?_
                try simp only [Act.put, lay1, lay2, lay3]
                refine tko (i := 6) (oi := ⟨some 162, Op.binOp BinOp.neq 26 (Operand.tmp 161) (Operand.const (Value.int IntKind.u8 1)) _, _, _, _, _⟩) (v := undef) rfl (Or.inr ⟨by rfl, rfl⟩) (by assumption) ?_
                try simp only [Act.put, lay1, lay2, lay3]
                refine tko (i := 7) (oi := ⟨some 163, Op.pick (Operand.tmp 157) (Operand.tmp 162) (Operand.const (Value.bool false)), _, _, _, _⟩) (v := ?v36) rfl (Or.inl ⟨by rfl, ?hy36⟩) (by assumption) ?_
                case hy36 => ((intro w0 hSw; go_simp); try (with_reducible rfl))
                try simp only [Act.put, lay1, lay2, lay3]
                refine tko (i := 8) (oi := ⟨some 164, Op.move (Operand.tmp 163), _, _, _, _⟩) (v := ?v37) rfl (Or.inl ⟨by rfl, ?hy37⟩) (by assumption) ?_
                case hy37 => ((intro w0 hSw; go_simp); try (with_reducible rfl))
                try simp only [Act.put, lay1, lay2, lay3]
                refine tko (i := 9) (oi := ⟨some 165, Op.fieldAddr 47 (Operand.tmp 15) 0, _, _, _, _⟩) (v := undef) rfl (Or.inr ⟨by rfl, rfl⟩) (by assumption) ?_
                try simp only [Act.put, lay1, lay2, lay3]
                refine tko (i := 10) (oi := ⟨some 166, Op.load 3 (Operand.tmp 165), _, _, _, _⟩) (v := undef) rfl (Or.inr ⟨by rfl, rfl⟩) (by assumption) ?_
                try simp only [Act.put, lay1, lay2, lay3]
                refine tko (i := 11) (oi := ⟨some 167, Op.move (Operand.tmp 13), _, _, _, _⟩) (v := undef) rfl (Or.inr ⟨by rfl, rfl⟩) (by assumption) ?_
                try simp only [Act.put, lay1, lay2, lay3]
                refine tko (i := 12) (oi := ⟨some 168, Op.indexAddr 42 (Operand.tmp 167) (Operand.const (Value.int IntKind.i64 0)), _, _, _, _⟩) (v := undef) rfl (Or.inr ⟨by rfl, rfl⟩) (by assumption) ?_
                try simp only [Act.put, lay1, lay2, lay3]
                refine tko (i := 13) (oi := ⟨some 169, Op.fieldAddr 31 (Operand.tmp 168) 2, _, _, _, _⟩) (v := undef) rfl (Or.inr ⟨by rfl, rfl⟩) (by assumption) ?_
                try simp only [Act.put, lay1, lay2, lay3]
                refine tko (i := 14) (oi := ⟨some 170, Op.load 3 (Operand.tmp 169), _, _, _, _⟩) (v := undef) rfl (Or.inr ⟨by rfl, rfl⟩) (by assumption) ?_
                try simp only [Act.put, lay1, lay2, lay3]
                refine tko (i := 15) (oi := ⟨some 171, Op.binOp BinOp.neq 3 (Operand.tmp 166) (Operand.tmp 170) _, _, _, _, _⟩) (v := undef) rfl (Or.inr ⟨by rfl, rfl⟩) (by assumption) ?_
                try simp only [Act.put, lay1, lay2, lay3]
                refine tko (i := 16) (oi := ⟨some 172, Op.move (Operand.tmp 171), _, _, _, _⟩) (v := undef) rfl (Or.inr ⟨by rfl, rfl⟩) (by assumption) ?_
                try simp only [Act.put, lay1, lay2, lay3]
                refine tko (i := 17) (oi := ⟨some 173, Op.fieldAddr 47 (Operand.tmp 15) 1, _, _, _, _⟩) (v := undef) rfl (Or.inr ⟨by rfl, rfl⟩) (by assumption) ?_
                try simp only [Act.put, lay1, lay2, lay3]
                refine tko (i := 18) (oi := ⟨some 174, Op.load 45 (Operand.tmp 173), _, _, _, _⟩) (v := undef) rfl (Or.inr ⟨by rfl, rfl⟩) (by assumption) ?_
                try simp only [Act.put, lay1, lay2, lay3]
                refine tko (i := 19) (oi := ⟨some 175, Op.call { callee := Callee.value (Operand.func 27), args := #[(Operand.tmp 174)], argTypes := #[45] }, _, _, _, _⟩) (v := undef) rfl (Or.inr ⟨by rfl, rfl⟩) (by assumption) ?_
                try simp only [Act.put, lay1, lay2, lay3]
                refine tko (i := 20) (oi := ⟨some 176, Op.binOp BinOp.neq 3 (Operand.tmp 175) (Operand.const (Value.int IntKind.i64 0)) _, _, _, _, _⟩) (v := undef) rfl (Or.inr ⟨by rfl, rfl⟩) (by assumption) ?_
                try simp only [Act.put, lay1, lay2, lay3]
                refine tko (i := 21) (oi := ⟨some 177, Op.pick (Operand.tmp 172) (Operand.const (Value.bool true)) (Operand.tmp 176), _, _, _, _⟩) (v := undef) rfl (Or.inr ⟨by rfl, rfl⟩) (by assumption) ?_
                try simp only [Act.put, lay1, lay2, lay3]
                refine tko (i := 22) (oi := ⟨some 178, Op.pick (Operand.tmp 164) (Operand.tmp 177) (Operand.const (Value.bool false)), _, _, _, _⟩) (v := ?v51) rfl (Or.inl ⟨by rfl, ?hy51⟩) (by assumption) ?_
                case hy51 => ((intro w0 hSw; go_simp); try (with_reducible rfl))
                try simp only [Act.put, lay1, lay2, lay3]
                refine wpAnyH_done (by kernel_rfl) ?_ _
                go_wp2_with fail
                go_roundw
                case rel => exact ⟨j + 1, F2, by omega, by go_num, by rw [take_snoc HN.out, stOf_snoc, ← HH1.out, ← HO1.out]; exact HO9.out.grown (grown_trans HGQ.out hHeld)⟩
                case measure => simp [intOf]; omega
            | cons x0 xs =>
              have hl0 : 0 < k := by rw [HLO.out, ho]; simp
              obtain ⟨g, off, rfl, hml, hr⟩ := tt.nsl_at (HV9.out.grown HGQ.out) 0 x0 (by rw [ho]; rfl)
              have HX0 := Lib.hid (HF.out.2.2 x0 xs ho)
              have hl1 : decide (0 < k) = true := by simp; omega
              have hl2 : (0 : Int) < (k : Int) := by omega
              rw [Nat.zero_mul, Nat.add_zero] at hr
              obtain ⟨x0k, _, x0t, _, x0s⟩ := note_cells hr
              have HRX := Lib.hid hr
              clear ho hml hr
              by_cases h6 : x0.k = 6
              · rw [h6] at x0k
                obtain ⟨how, hgo⟩ := HX0.out h6
                clear h6 HX0
                go_wp2_with fail
                clear x0k x0t x0s
                have HK : Hid (∀ w', wy.grownBy w' none → w'.cell? ⟨BN, 0, none⟩ = some (.int .u8 n.k) ∧ w'.cell? ⟨BE, 0, none⟩ = some (.int .i64 eo) ∧ w'.cell? ⟨BW, 0, none⟩ = some (.int .i64 no) ∧ w'.cell? ⟨BW, 1, none⟩ = some (.int .u32 nz) ∧ w'.cell? ⟨g, off + 2, none⟩ = some (.int .i64 x0.t) ∧ w'.cell? ⟨g, off + 5, none⟩ = some (.int .u8 x0.s)) := Lib.hid fun w' h' => by
                  have hq := grown_trans HGQ.out h'
                  obtain ⟨_, _, a2, _, a5⟩ := note_cells (tt.range_grown HRX.out h' (by simp))
                  exact ⟨(note_cells (tt.range_of (row_up HX9.out hq))).1, (en.cells2 (row_up HE9.out hq)).1, (en.cells2 (row_up HW9.out hq)).1, (en.cells2 (row_up HW9.out hq)).2, a2, a5⟩
                have HNT : Hid (∀ w : World, _) := Lib.hid fun w => tt.net_any n.k w
                have HC0 : Hid (∀ w : World, Calls Tryd.prog 27 #[.int .u32 0] w fun e w' => e = .returned (.int .i64 0) ∧ ∃ n, w' = w.drewN n) := Lib.hid fun w => mm.count_any 0 w (by decide)
                rw [HEO.out] at how
                have HGO := Lib.hid hgo
                clear hgo
                by_cases hn0 : net n.k = 0
                · rw [hn0] at HNT
                  by_cases h0 : 0 ≤ eo
                  · have hxt := (how hn0 h0).symm
                    have HXT := Lib.hid hxt
                    rw [hxt] at HK
                    clear how hn0 hxt
                    have hd0 : decide (0 ≤ eo) = true := by simpa using h0
                    by_cases hs1 : x0.s = 1
                    · rw [hs1] at HK
                      clear hs1 HGO
                      as_aux_lemma =>
                        refine wp_region_held_drew (S := fun w' => wy.grownBy w' none) (by kernel_rfl) (tt.grown_drew (grown_refl _ _)) (fun hHeld => ?_)
                        generalize wy.drew = wd2 at hHeld ⊢
                        refine tko (i := 0) (oi := ⟨some 135, Op.move (Operand.tmp 19), _, _, _, _⟩) (v := ?v96) rfl (Or.inl ⟨by rfl, ?hy96⟩) (by assumption) ?_
                        case hy96 => ((intro w0 hSw; go_simp); try (with_reducible rfl))
                        try simp only [Act.put, lay1, lay2, lay3]
                        refine tko (i := 1) (oi := ⟨some 136, Op.move (Operand.tmp 135), _, _, _, _⟩) (v := ?v97) rfl (Or.inl ⟨by rfl, ?hy97⟩) (by assumption) ?_
                        case hy97 => ((intro w0 hSw; go_simp); try (with_reducible rfl))
                        try simp only [Act.put, lay1, lay2, lay3]
                        refine tko (i := 2) (oi := ⟨some 137, Op.fieldAddr 31 (Operand.tmp 10) 0, _, _, _, _⟩) (v := ?v98) rfl (Or.inl ⟨by rfl, ?hy98⟩) (by assumption) ?_
                        case hy98 => ((intro w0 hSw; go_simp); try (with_reducible rfl))
                        try simp only [Act.put, lay1, lay2, lay3]
                        refine tko (i := 3) (oi := ⟨some 138, Op.load 5 (Operand.tmp 137), _, _, _, _⟩) (v := ?v99) rfl (Or.inl ⟨by rfl, ?hy99⟩) (by assumption) ?_
                        case hy99 => ((intro w0 hSw; obtain ⟨hs1, hs2, hs3, hs4, hs5, hs6⟩ := HK.out w0 hSw; go_simp); try (with_reducible rfl))
                        try simp only [Act.put, lay1, lay2, lay3]
                        refine rdo (i := 4) (o := ⟨some 139, Op.call { callee := Callee.value (Operand.func 23), args := #[(Operand.tmp 138)], argTypes := #[5] }, _, _, _, _⟩) rfl (fun K hK => ?_)
                        go_simp
                        (with_reducible refine (HNT.out _).mono ?_); rintro e wn ⟨rfl, rfl⟩
                        refine hK.out _ _ hHeld (fun hHeld => ?_)
                        clear hK K
                        try simp only [Act.put, lay1, lay2, lay3]
                        refine tko (i := 5) (oi := ⟨some 140, Op.binOp BinOp.eql 3 (Operand.tmp 139) (Operand.const (Value.int IntKind.i64 0)) _, _, _, _, _⟩) (v := ?v100) rfl (Or.inl ⟨by rfl, ?hy100⟩) (by assumption) ?_
                        case hy100 => ((intro w0 hSw; go_simp); try (with_reducible rfl))
                        try simp only [Act.put, lay1, lay2, lay3]
                        refine tko (i := 6) (oi := ⟨some 141, Op.pick (Operand.tmp 136) (Operand.tmp 140) (Operand.const (Value.bool false)), _, _, _, _⟩) (v := ?v101) rfl (Or.inl ⟨by rfl, ?hy101⟩) (by assumption) ?_
                        case hy101 => ((intro w0 hSw; go_simp); try (with_reducible rfl))
                        try simp only [Act.put, lay1, lay2, lay3]
                        refine tko (i := 7) (oi := ⟨some 142, Op.move (Operand.tmp 141), _, _, _, _⟩) (v := ?v102) rfl (Or.inl ⟨by rfl, ?hy102⟩) (by assumption) ?_
                        case hy102 => ((intro w0 hSw; go_simp); try (with_reducible rfl))
                        try simp only [Act.put, lay1, lay2, lay3]
                        refine tko (i := 8) (oi := ⟨some 143, Op.fieldAddr 47 (Operand.tmp 11) 0, _, _, _, _⟩) (v := ?v103) rfl (Or.inl ⟨by rfl, ?hy103⟩) (by assumption) ?_
                        case hy103 => ((intro w0 hSw; go_simp); try (with_reducible rfl))
                        try simp only [Act.put, lay1, lay2, lay3]
                        refine tko (i := 9) (oi := ⟨some 144, Op.load 3 (Operand.tmp 143), _, _, _, _⟩) (v := ?v104) rfl (Or.inl ⟨by rfl, ?hy104⟩) (by assumption) ?_
                        case hy104 => ((intro w0 hSw; obtain ⟨hs1, hs2, hs3, hs4, hs5, hs6⟩ := HK.out w0 hSw; go_simp); try (with_reducible rfl))
                        try simp only [Act.put, lay1, lay2, lay3]
                        refine tko (i := 10) (oi := ⟨some 145, Op.binOp BinOp.geq 3 (Operand.tmp 144) (Operand.const (Value.int IntKind.i64 0)) _, _, _, _, _⟩) (v := ?v105) rfl (Or.inl ⟨by rfl, ?hy105⟩) (by assumption) ?_
                        case hy105 => ((intro w0 hSw; go_simp); try (with_reducible rfl))
                        try simp only [Act.put, lay1, lay2, lay3]
                        refine tko (i := 11) (oi := ⟨some 146, Op.pick (Operand.tmp 142) (Operand.tmp 145) (Operand.const (Value.bool false)), _, _, _, _⟩) (v := ?v106) rfl (Or.inl ⟨by rfl, ?hy106⟩) (by assumption) ?_
                        case hy106 => ((intro w0 hSw; go_simp); try (with_reducible rfl))
                        try simp only [Act.put, lay1, lay2, lay3]
                        refine tko (i := 12) (oi := ⟨some 147, Op.move (Operand.tmp 146), _, _, _, _⟩) (v := ?v107) rfl (Or.inl ⟨by rfl, ?hy107⟩) (by assumption) ?_
                        case hy107 => ((intro w0 hSw; go_simp); try (with_reducible rfl))
                        try simp only [Act.put, lay1, lay2, lay3]
                        refine tko (i := 13) (oi := ⟨some 148, Op.fieldAddr 47 (Operand.tmp 11) 0, _, _, _, _⟩) (v := ?v108) rfl (Or.inl ⟨by rfl, ?hy108⟩) (by assumption) ?_
                        case hy108 => ((intro w0 hSw; go_simp); try (with_reducible rfl))
                        try simp only [Act.put, lay1, lay2, lay3]
                        refine tko (i := 14) (oi := ⟨some 149, Op.load 3 (Operand.tmp 148), _, _, _, _⟩) (v := ?v109) rfl (Or.inl ⟨by rfl, ?hy109⟩) (by assumption) ?_
                        case hy109 => ((intro w0 hSw; obtain ⟨hs1, hs2, hs3, hs4, hs5, hs6⟩ := HK.out w0 hSw; go_simp); try (with_reducible rfl))
                        try simp only [Act.put, lay1, lay2, lay3]
                        refine tko (i := 15) (oi := ⟨some 150, Op.move (Operand.tmp 13), _, _, _, _⟩) (v := ?v110) rfl (Or.inl ⟨by rfl, ?hy110⟩) (by assumption) ?_
                        case hy110 => ((intro w0 hSw; go_simp); try (with_reducible rfl))
                        try simp only [Act.put, lay1, lay2, lay3]
                        refine tko (i := 16) (oi := ⟨some 151, Op.indexAddr 42 (Operand.tmp 150) (Operand.const (Value.int IntKind.i64 0)), _, _, _, _⟩) (v := ?v111) rfl (Or.inl ⟨by rfl, ?hy111⟩) (by assumption) ?_
                        case hy111 => ((intro w0 hSw; go_simp); try (with_reducible rfl))
                        try simp only [Act.put, lay1, lay2, lay3]
                        refine tko (i := 17) (oi := ⟨some 152, Op.fieldAddr 31 (Operand.tmp 151) 2, _, _, _, _⟩) (v := ?v112) rfl (Or.inl ⟨by rfl, ?hy112⟩) (by assumption) ?_
                        case hy112 => ((intro w0 hSw; go_simp); try (with_reducible rfl))
                        try simp only [Act.put, lay1, lay2, lay3]
                        refine tko (i := 18) (oi := ⟨some 153, Op.load 3 (Operand.tmp 152), _, _, _, _⟩) (v := ?v113) rfl (Or.inl ⟨by rfl, ?hy113⟩) (by assumption) ?_
                        case hy113 => ((intro w0 hSw; obtain ⟨hs1, hs2, hs3, hs4, hs5, hs6⟩ := HK.out w0 hSw; go_simp); try (with_reducible rfl))
                        try simp only [Act.put, lay1, lay2, lay3]
                        refine tko (i := 19) (oi := ⟨some 154, Op.binOp BinOp.neq 3 (Operand.tmp 149) (Operand.tmp 153) _, _, _, _, _⟩) (v := ?v114) rfl (Or.inl ⟨by rfl, ?hy114⟩) (by assumption) ?_
                        case hy114 => ((intro w0 hSw; go_simp); try (with_reducible rfl))
                        try simp only [Act.put, lay1, lay2, lay3]
                        refine tko (i := 20) (oi := ⟨some 155, Op.pick (Operand.tmp 147) (Operand.tmp 154) (Operand.const (Value.bool false)), _, _, _, _⟩) (v := ?v115) rfl (Or.inl ⟨by rfl, ?hy115⟩) (by assumption) ?_
                        case hy115 => ((intro w0 hSw; go_simp); try (with_reducible rfl))
                        try simp only [Act.put, lay1, lay2, lay3]
                        refine wpAnyH_done (by kernel_rfl) ?_ _
                        go_wp2_with fail
                        have HGD := Lib.hid hHeld
                        clear hHeld
                        refine wp_region_held_drew (S := fun w' => wy.grownBy w' none) (by kernel_rfl) (tt.grown_drew HGD.out) (fun hHeld => ?_)
                        generalize World.drew _ = wd3 at hHeld ⊢
                        refine tko (i := 0) (oi := ⟨some 156, Op.move (Operand.tmp 19), _, _, _, _⟩) (v := ?v116) rfl (Or.inl ⟨by rfl, ?hy116⟩) (by assumption) ?_
                        case hy116 => ((intro w0 hSw; go_simp); try (with_reducible rfl))
                        try simp only [Act.put, lay1, lay2, lay3]
                        refine tko (i := 1) (oi := ⟨some 157, Op.move (Operand.tmp 156), _, _, _, _⟩) (v := ?v117) rfl (Or.inl ⟨by rfl, ?hy117⟩) (by assumption) ?_
                        case hy117 => ((intro w0 hSw; go_simp); try (with_reducible rfl))
                        try simp only [Act.put, lay1, lay2, lay3]
                        refine tko (i := 2) (oi := ⟨some 158, Op.move (Operand.tmp 13), _, _, _, _⟩) (v := ?v118) rfl (Or.inl ⟨by rfl, ?hy118⟩) (by assumption) ?_
                        case hy118 => ((intro w0 hSw; go_simp); try (with_reducible rfl))
                        try simp only [Act.put, lay1, lay2, lay3]
                        refine tko (i := 3) (oi := ⟨some 159, Op.indexAddr 42 (Operand.tmp 158) (Operand.const (Value.int IntKind.i64 0)), _, _, _, _⟩) (v := ?v119) rfl (Or.inl ⟨by rfl, ?hy119⟩) (by assumption) ?_
                        case hy119 => ((intro w0 hSw; go_simp); try (with_reducible rfl))
                        try simp only [Act.put, lay1, lay2, lay3]
                        refine tko (i := 4) (oi := ⟨some 160, Op.fieldAddr 31 (Operand.tmp 159) 5, _, _, _, _⟩) (v := ?v120) rfl (Or.inl ⟨by rfl, ?hy120⟩) (by assumption) ?_
                        case hy120 => ((intro w0 hSw; go_simp); try (with_reducible rfl))
                        try simp only [Act.put, lay1, lay2, lay3]
                        refine tko (i := 5) (oi := ⟨some 161, Op.load 26 (Operand.tmp 160), _, _, _, _⟩) (v := ?v121) rfl (Or.inl ⟨by rfl, ?hy121⟩) (by assumption) ?_
                        case hy121 => ((intro w0 hSw; obtain ⟨hs1, hs2, hs3, hs4, hs5, hs6⟩ := HK.out w0 hSw; go_simp); try (with_reducible rfl))
                        try simp only [Act.put, lay1, lay2, lay3]
                        refine tko (i := 6) (oi := ⟨some 162, Op.binOp BinOp.neq 26 (Operand.tmp 161) (Operand.const (Value.int IntKind.u8 1)) _, _, _, _, _⟩) (v := ?v122) rfl (Or.inl ⟨by rfl, ?hy122⟩) (by assumption) ?_
                        case hy122 => ((intro w0 hSw; go_simp); try (with_reducible rfl))
                        try simp only [Act.put, lay1, lay2, lay3]
                        refine tko (i := 7) (oi := ⟨some 163, Op.pick (Operand.tmp 157) (Operand.tmp 162) (Operand.const (Value.bool false)), _, _, _, _⟩) (v := ?v123) rfl (Or.inl ⟨by rfl, ?hy123⟩) (by assumption) ?_
                        case hy123 => ((intro w0 hSw; go_simp); try (with_reducible rfl))
                        try simp only [Act.put, lay1, lay2, lay3]
                        refine tko (i := 8) (oi := ⟨some 164, Op.move (Operand.tmp 163), _, _, _, _⟩) (v := ?v124) rfl (Or.inl ⟨by rfl, ?hy124⟩) (by assumption) ?_
                        case hy124 => ((intro w0 hSw; go_simp); try (with_reducible rfl))
                        try simp only [Act.put, lay1, lay2, lay3]
                        refine tko (i := 9) (oi := ⟨some 165, Op.fieldAddr 47 (Operand.tmp 15) 0, _, _, _, _⟩) (v := undef) rfl (Or.inr ⟨by rfl, rfl⟩) (by assumption) ?_
                        try simp only [Act.put, lay1, lay2, lay3]
                        refine tko (i := 10) (oi := ⟨some 166, Op.load 3 (Operand.tmp 165), _, _, _, _⟩) (v := undef) rfl (Or.inr ⟨by rfl, rfl⟩) (by assumption) ?_
                        try simp only [Act.put, lay1, lay2, lay3]
                        refine tko (i := 11) (oi := ⟨some 167, Op.move (Operand.tmp 13), _, _, _, _⟩) (v := undef) rfl (Or.inr ⟨by rfl, rfl⟩) (by assumption) ?_
                        try simp only [Act.put, lay1, lay2, lay3]
                        refine tko (i := 12) (oi := ⟨some 168, Op.indexAddr 42 (Operand.tmp 167) (Operand.const (Value.int IntKind.i64 0)), _, _, _, _⟩) (v := undef) rfl (Or.inr ⟨by rfl, rfl⟩) (by assumption) ?_
                        try simp only [Act.put, lay1, lay2, lay3]
                        refine tko (i := 13) (oi := ⟨some 169, Op.fieldAddr 31 (Operand.tmp 168) 2, _, _, _, _⟩) (v := undef) rfl (Or.inr ⟨by rfl, rfl⟩) (by assumption) ?_
                        try simp only [Act.put, lay1, lay2, lay3]
                        refine tko (i := 14) (oi := ⟨some 170, Op.load 3 (Operand.tmp 169), _, _, _, _⟩) (v := undef) rfl (Or.inr ⟨by rfl, rfl⟩) (by assumption) ?_
                        try simp only [Act.put, lay1, lay2, lay3]
                        refine tko (i := 15) (oi := ⟨some 171, Op.binOp BinOp.neq 3 (Operand.tmp 166) (Operand.tmp 170) _, _, _, _, _⟩) (v := undef) rfl (Or.inr ⟨by rfl, rfl⟩) (by assumption) ?_
                        try simp only [Act.put, lay1, lay2, lay3]
                        refine tko (i := 16) (oi := ⟨some 172, Op.move (Operand.tmp 171), _, _, _, _⟩) (v := undef) rfl (Or.inr ⟨by rfl, rfl⟩) (by assumption) ?_
                        try simp only [Act.put, lay1, lay2, lay3]
                        refine tko (i := 17) (oi := ⟨some 173, Op.fieldAddr 47 (Operand.tmp 15) 1, _, _, _, _⟩) (v := undef) rfl (Or.inr ⟨by rfl, rfl⟩) (by assumption) ?_
                        try simp only [Act.put, lay1, lay2, lay3]
                        refine tko (i := 18) (oi := ⟨some 174, Op.load 45 (Operand.tmp 173), _, _, _, _⟩) (v := undef) rfl (Or.inr ⟨by rfl, rfl⟩) (by assumption) ?_
                        try simp only [Act.put, lay1, lay2, lay3]
                        refine tko (i := 19) (oi := ⟨some 175, Op.call { callee := Callee.value (Operand.func 27), args := #[(Operand.tmp 174)], argTypes := #[45] }, _, _, _, _⟩) (v := undef) rfl (Or.inr ⟨by rfl, rfl⟩) (by assumption) ?_
                        try simp only [Act.put, lay1, lay2, lay3]
                        refine tko (i := 20) (oi := ⟨some 176, Op.binOp BinOp.neq 3 (Operand.tmp 175) (Operand.const (Value.int IntKind.i64 0)) _, _, _, _, _⟩) (v := undef) rfl (Or.inr ⟨by rfl, rfl⟩) (by assumption) ?_
                        try simp only [Act.put, lay1, lay2, lay3]
                        refine tko (i := 21) (oi := ⟨some 177, Op.pick (Operand.tmp 172) (Operand.const (Value.bool true)) (Operand.tmp 176), _, _, _, _⟩) (v := undef) rfl (Or.inr ⟨by rfl, rfl⟩) (by assumption) ?_
                        try simp only [Act.put, lay1, lay2, lay3]
                        refine tko (i := 22) (oi := ⟨some 178, Op.pick (Operand.tmp 164) (Operand.tmp 177) (Operand.const (Value.bool false)), _, _, _, _⟩) (v := ?v138) rfl (Or.inl ⟨by rfl, ?hy138⟩) (by assumption) ?_
                        case hy138 => ((intro w0 hSw; go_simp); try (with_reducible rfl))
                        try simp only [Act.put, lay1, lay2, lay3]
                        refine wpAnyH_done (by kernel_rfl) ?_ _
                        go_wp2_with fail
                        go_roundw
                        case rel => exact ⟨j + 1, F2, by omega, by go_num, by rw [take_snoc HN.out, stOf_snoc, ← HH1.out, ← HO1.out]; exact HO9.out.grown (grown_trans HGQ.out hHeld)⟩
                        case measure => simp [intOf]; omega
                    · have hs : (x0.s != 1) = true := by simpa using hs1
                      have he := HGO.out hs1
                      have hq1 : no = eo := by rw [← HNO.out, he]; exact HXT.out
                      have hq2 : nz = 0 := by rw [← HNZ.out, he]; rfl
                      rw [hq1, hq2] at HK
                      clear hs1 HGO he hq1 hq2
                      as_aux_lemma =>
                        refine wp_region_held_drew (S := fun w' => wy.grownBy w' none) (by kernel_rfl) (tt.grown_drew (grown_refl _ _)) (fun hHeld => ?_)
                        generalize wy.drew = wd2 at hHeld ⊢
                        refine tko (i := 0) (oi := ⟨some 135, Op.move (Operand.tmp 19), _, _, _, _⟩) (v := ?v139) rfl (Or.inl ⟨by rfl, ?hy139⟩) (by assumption) ?_
                        case hy139 => ((intro w0 hSw; go_simp); try (with_reducible rfl))
                        try simp only [Act.put, lay1, lay2, lay3]
                        refine tko (i := 1) (oi := ⟨some 136, Op.move (Operand.tmp 135), _, _, _, _⟩) (v := ?v140) rfl (Or.inl ⟨by rfl, ?hy140⟩) (by assumption) ?_
                        case hy140 => ((intro w0 hSw; go_simp); try (with_reducible rfl))
                        try simp only [Act.put, lay1, lay2, lay3]
                        refine tko (i := 2) (oi := ⟨some 137, Op.fieldAddr 31 (Operand.tmp 10) 0, _, _, _, _⟩) (v := ?v141) rfl (Or.inl ⟨by rfl, ?hy141⟩) (by assumption) ?_
                        case hy141 => ((intro w0 hSw; go_simp); try (with_reducible rfl))
                        try simp only [Act.put, lay1, lay2, lay3]
                        refine tko (i := 3) (oi := ⟨some 138, Op.load 5 (Operand.tmp 137), _, _, _, _⟩) (v := ?v142) rfl (Or.inl ⟨by rfl, ?hy142⟩) (by assumption) ?_
                        case hy142 => ((intro w0 hSw; obtain ⟨hs1, hs2, hs3, hs4, hs5, hs6⟩ := HK.out w0 hSw; go_simp); try (with_reducible rfl))
                        try simp only [Act.put, lay1, lay2, lay3]
                        refine rdo (i := 4) (o := ⟨some 139, Op.call { callee := Callee.value (Operand.func 23), args := #[(Operand.tmp 138)], argTypes := #[5] }, _, _, _, _⟩) rfl (fun K hK => ?_)
                        go_simp
                        (with_reducible refine (HNT.out _).mono ?_); rintro e wn ⟨rfl, rfl⟩
                        refine hK.out _ _ hHeld (fun hHeld => ?_)
                        clear hK K
                        try simp only [Act.put, lay1, lay2, lay3]
                        refine tko (i := 5) (oi := ⟨some 140, Op.binOp BinOp.eql 3 (Operand.tmp 139) (Operand.const (Value.int IntKind.i64 0)) _, _, _, _, _⟩) (v := ?v143) rfl (Or.inl ⟨by rfl, ?hy143⟩) (by assumption) ?_
                        case hy143 => ((intro w0 hSw; go_simp); try (with_reducible rfl))
                        try simp only [Act.put, lay1, lay2, lay3]
                        refine tko (i := 6) (oi := ⟨some 141, Op.pick (Operand.tmp 136) (Operand.tmp 140) (Operand.const (Value.bool false)), _, _, _, _⟩) (v := ?v144) rfl (Or.inl ⟨by rfl, ?hy144⟩) (by assumption) ?_
                        case hy144 => ((intro w0 hSw; go_simp); try (with_reducible rfl))
                        try simp only [Act.put, lay1, lay2, lay3]
                        refine tko (i := 7) (oi := ⟨some 142, Op.move (Operand.tmp 141), _, _, _, _⟩) (v := ?v145) rfl (Or.inl ⟨by rfl, ?hy145⟩) (by assumption) ?_
                        case hy145 => ((intro w0 hSw; go_simp); try (with_reducible rfl))
                        try simp only [Act.put, lay1, lay2, lay3]
                        refine tko (i := 8) (oi := ⟨some 143, Op.fieldAddr 47 (Operand.tmp 11) 0, _, _, _, _⟩) (v := ?v146) rfl (Or.inl ⟨by rfl, ?hy146⟩) (by assumption) ?_
                        case hy146 => ((intro w0 hSw; go_simp); try (with_reducible rfl))
                        try simp only [Act.put, lay1, lay2, lay3]
                        refine tko (i := 9) (oi := ⟨some 144, Op.load 3 (Operand.tmp 143), _, _, _, _⟩) (v := ?v147) rfl (Or.inl ⟨by rfl, ?hy147⟩) (by assumption) ?_
                        case hy147 => ((intro w0 hSw; obtain ⟨hs1, hs2, hs3, hs4, hs5, hs6⟩ := HK.out w0 hSw; go_simp); try (with_reducible rfl))
                        try simp only [Act.put, lay1, lay2, lay3]
                        refine tko (i := 10) (oi := ⟨some 145, Op.binOp BinOp.geq 3 (Operand.tmp 144) (Operand.const (Value.int IntKind.i64 0)) _, _, _, _, _⟩) (v := ?v148) rfl (Or.inl ⟨by rfl, ?hy148⟩) (by assumption) ?_
                        case hy148 => ((intro w0 hSw; go_simp); try (with_reducible rfl))
                        try simp only [Act.put, lay1, lay2, lay3]
                        refine tko (i := 11) (oi := ⟨some 146, Op.pick (Operand.tmp 142) (Operand.tmp 145) (Operand.const (Value.bool false)), _, _, _, _⟩) (v := ?v149) rfl (Or.inl ⟨by rfl, ?hy149⟩) (by assumption) ?_
                        case hy149 => ((intro w0 hSw; go_simp); try (with_reducible rfl))
                        try simp only [Act.put, lay1, lay2, lay3]
                        refine tko (i := 12) (oi := ⟨some 147, Op.move (Operand.tmp 146), _, _, _, _⟩) (v := ?v150) rfl (Or.inl ⟨by rfl, ?hy150⟩) (by assumption) ?_
                        case hy150 => ((intro w0 hSw; go_simp); try (with_reducible rfl))
                        try simp only [Act.put, lay1, lay2, lay3]
                        refine tko (i := 13) (oi := ⟨some 148, Op.fieldAddr 47 (Operand.tmp 11) 0, _, _, _, _⟩) (v := ?v151) rfl (Or.inl ⟨by rfl, ?hy151⟩) (by assumption) ?_
                        case hy151 => ((intro w0 hSw; go_simp); try (with_reducible rfl))
                        try simp only [Act.put, lay1, lay2, lay3]
                        refine tko (i := 14) (oi := ⟨some 149, Op.load 3 (Operand.tmp 148), _, _, _, _⟩) (v := ?v152) rfl (Or.inl ⟨by rfl, ?hy152⟩) (by assumption) ?_
                        case hy152 => ((intro w0 hSw; obtain ⟨hs1, hs2, hs3, hs4, hs5, hs6⟩ := HK.out w0 hSw; go_simp); try (with_reducible rfl))
                        try simp only [Act.put, lay1, lay2, lay3]
                        refine tko (i := 15) (oi := ⟨some 150, Op.move (Operand.tmp 13), _, _, _, _⟩) (v := ?v153) rfl (Or.inl ⟨by rfl, ?hy153⟩) (by assumption) ?_
                        case hy153 => ((intro w0 hSw; go_simp); try (with_reducible rfl))
                        try simp only [Act.put, lay1, lay2, lay3]
                        refine tko (i := 16) (oi := ⟨some 151, Op.indexAddr 42 (Operand.tmp 150) (Operand.const (Value.int IntKind.i64 0)), _, _, _, _⟩) (v := ?v154) rfl (Or.inl ⟨by rfl, ?hy154⟩) (by assumption) ?_
                        case hy154 => ((intro w0 hSw; go_simp); try (with_reducible rfl))
                        try simp only [Act.put, lay1, lay2, lay3]
                        refine tko (i := 17) (oi := ⟨some 152, Op.fieldAddr 31 (Operand.tmp 151) 2, _, _, _, _⟩) (v := ?v155) rfl (Or.inl ⟨by rfl, ?hy155⟩) (by assumption) ?_
                        case hy155 => ((intro w0 hSw; go_simp); try (with_reducible rfl))
                        try simp only [Act.put, lay1, lay2, lay3]
                        refine tko (i := 18) (oi := ⟨some 153, Op.load 3 (Operand.tmp 152), _, _, _, _⟩) (v := ?v156) rfl (Or.inl ⟨by rfl, ?hy156⟩) (by assumption) ?_
                        case hy156 => ((intro w0 hSw; obtain ⟨hs1, hs2, hs3, hs4, hs5, hs6⟩ := HK.out w0 hSw; go_simp); try (with_reducible rfl))
                        try simp only [Act.put, lay1, lay2, lay3]
                        refine tko (i := 19) (oi := ⟨some 154, Op.binOp BinOp.neq 3 (Operand.tmp 149) (Operand.tmp 153) _, _, _, _, _⟩) (v := ?v157) rfl (Or.inl ⟨by rfl, ?hy157⟩) (by assumption) ?_
                        case hy157 => ((intro w0 hSw; go_simp); try (with_reducible rfl))
                        try simp only [Act.put, lay1, lay2, lay3]
                        refine tko (i := 20) (oi := ⟨some 155, Op.pick (Operand.tmp 147) (Operand.tmp 154) (Operand.const (Value.bool false)), _, _, _, _⟩) (v := ?v158) rfl (Or.inl ⟨by rfl, ?hy158⟩) (by assumption) ?_
                        case hy158 => ((intro w0 hSw; go_simp); try (with_reducible rfl))
                        try simp only [Act.put, lay1, lay2, lay3]
                        refine wpAnyH_done (by kernel_rfl) ?_ _
                        go_wp2_with fail
                        have HGD := Lib.hid hHeld
                        clear hHeld
                        refine wp_region_held_drew (S := fun w' => wy.grownBy w' none) (by kernel_rfl) (tt.grown_drew HGD.out) (fun hHeld => ?_)
                        generalize World.drew _ = wd3 at hHeld ⊢
                        refine tko (i := 0) (oi := ⟨some 156, Op.move (Operand.tmp 19), _, _, _, _⟩) (v := ?v159) rfl (Or.inl ⟨by rfl, ?hy159⟩) (by assumption) ?_
                        case hy159 => ((intro w0 hSw; go_simp); try (with_reducible rfl))
                        try simp only [Act.put, lay1, lay2, lay3]
                        refine tko (i := 1) (oi := ⟨some 157, Op.move (Operand.tmp 156), _, _, _, _⟩) (v := ?v160) rfl (Or.inl ⟨by rfl, ?hy160⟩) (by assumption) ?_
                        case hy160 => ((intro w0 hSw; go_simp); try (with_reducible rfl))
                        try simp only [Act.put, lay1, lay2, lay3]
                        refine tko (i := 2) (oi := ⟨some 158, Op.move (Operand.tmp 13), _, _, _, _⟩) (v := ?v161) rfl (Or.inl ⟨by rfl, ?hy161⟩) (by assumption) ?_
                        case hy161 => ((intro w0 hSw; go_simp); try (with_reducible rfl))
                        try simp only [Act.put, lay1, lay2, lay3]
                        refine tko (i := 3) (oi := ⟨some 159, Op.indexAddr 42 (Operand.tmp 158) (Operand.const (Value.int IntKind.i64 0)), _, _, _, _⟩) (v := ?v162) rfl (Or.inl ⟨by rfl, ?hy162⟩) (by assumption) ?_
                        case hy162 => ((intro w0 hSw; go_simp); try (with_reducible rfl))
                        try simp only [Act.put, lay1, lay2, lay3]
                        refine tko (i := 4) (oi := ⟨some 160, Op.fieldAddr 31 (Operand.tmp 159) 5, _, _, _, _⟩) (v := ?v163) rfl (Or.inl ⟨by rfl, ?hy163⟩) (by assumption) ?_
                        case hy163 => ((intro w0 hSw; go_simp); try (with_reducible rfl))
                        try simp only [Act.put, lay1, lay2, lay3]
                        refine tko (i := 5) (oi := ⟨some 161, Op.load 26 (Operand.tmp 160), _, _, _, _⟩) (v := ?v164) rfl (Or.inl ⟨by rfl, ?hy164⟩) (by assumption) ?_
                        case hy164 => ((intro w0 hSw; obtain ⟨hs1, hs2, hs3, hs4, hs5, hs6⟩ := HK.out w0 hSw; go_simp); try (with_reducible rfl))
                        try simp only [Act.put, lay1, lay2, lay3]
                        refine tko (i := 6) (oi := ⟨some 162, Op.binOp BinOp.neq 26 (Operand.tmp 161) (Operand.const (Value.int IntKind.u8 1)) _, _, _, _, _⟩) (v := ?v165) rfl (Or.inl ⟨by rfl, ?hy165⟩) (by assumption) ?_
                        case hy165 => ((intro w0 hSw; go_simp); try (with_reducible rfl))
                        try simp only [Act.put, lay1, lay2, lay3]
                        refine tko (i := 7) (oi := ⟨some 163, Op.pick (Operand.tmp 157) (Operand.tmp 162) (Operand.const (Value.bool false)), _, _, _, _⟩) (v := ?v166) rfl (Or.inl ⟨by rfl, ?hy166⟩) (by assumption) ?_
                        case hy166 => ((intro w0 hSw; go_simp); try (with_reducible rfl))
                        try simp only [Act.put, lay1, lay2, lay3]
                        refine tko (i := 8) (oi := ⟨some 164, Op.move (Operand.tmp 163), _, _, _, _⟩) (v := ?v167) rfl (Or.inl ⟨by rfl, ?hy167⟩) (by assumption) ?_
                        case hy167 => ((intro w0 hSw; go_simp); try (with_reducible rfl))
                        try simp only [Act.put, lay1, lay2, lay3]
                        refine tko (i := 9) (oi := ⟨some 165, Op.fieldAddr 47 (Operand.tmp 15) 0, _, _, _, _⟩) (v := ?v168) rfl (Or.inl ⟨by rfl, ?hy168⟩) (by assumption) ?_
                        case hy168 => ((intro w0 hSw; go_simp); try (with_reducible rfl))
                        try simp only [Act.put, lay1, lay2, lay3]
                        refine tko (i := 10) (oi := ⟨some 166, Op.load 3 (Operand.tmp 165), _, _, _, _⟩) (v := ?v169) rfl (Or.inl ⟨by rfl, ?hy169⟩) (by assumption) ?_
                        case hy169 => ((intro w0 hSw; obtain ⟨hs1, hs2, hs3, hs4, hs5, hs6⟩ := HK.out w0 hSw; go_simp); try (with_reducible rfl))
                        try simp only [Act.put, lay1, lay2, lay3]
                        refine tko (i := 11) (oi := ⟨some 167, Op.move (Operand.tmp 13), _, _, _, _⟩) (v := ?v170) rfl (Or.inl ⟨by rfl, ?hy170⟩) (by assumption) ?_
                        case hy170 => ((intro w0 hSw; go_simp); try (with_reducible rfl))
                        try simp only [Act.put, lay1, lay2, lay3]
                        refine tko (i := 12) (oi := ⟨some 168, Op.indexAddr 42 (Operand.tmp 167) (Operand.const (Value.int IntKind.i64 0)), _, _, _, _⟩) (v := ?v171) rfl (Or.inl ⟨by rfl, ?hy171⟩) (by assumption) ?_
                        case hy171 => ((intro w0 hSw; go_simp); try (with_reducible rfl))
                        try simp only [Act.put, lay1, lay2, lay3]
                        refine tko (i := 13) (oi := ⟨some 169, Op.fieldAddr 31 (Operand.tmp 168) 2, _, _, _, _⟩) (v := ?v172) rfl (Or.inl ⟨by rfl, ?hy172⟩) (by assumption) ?_
                        case hy172 => ((intro w0 hSw; go_simp); try (with_reducible rfl))
                        try simp only [Act.put, lay1, lay2, lay3]
                        refine tko (i := 14) (oi := ⟨some 170, Op.load 3 (Operand.tmp 169), _, _, _, _⟩) (v := ?v173) rfl (Or.inl ⟨by rfl, ?hy173⟩) (by assumption) ?_
                        case hy173 => ((intro w0 hSw; obtain ⟨hs1, hs2, hs3, hs4, hs5, hs6⟩ := HK.out w0 hSw; go_simp); try (with_reducible rfl))
                        try simp only [Act.put, lay1, lay2, lay3]
                        refine tko (i := 15) (oi := ⟨some 171, Op.binOp BinOp.neq 3 (Operand.tmp 166) (Operand.tmp 170) _, _, _, _, _⟩) (v := ?v174) rfl (Or.inl ⟨by rfl, ?hy174⟩) (by assumption) ?_
                        case hy174 => ((intro w0 hSw; go_simp); try (with_reducible rfl))
                        try simp only [Act.put, lay1, lay2, lay3]
                        refine tko (i := 16) (oi := ⟨some 172, Op.move (Operand.tmp 171), _, _, _, _⟩) (v := ?v175) rfl (Or.inl ⟨by rfl, ?hy175⟩) (by assumption) ?_
                        case hy175 => ((intro w0 hSw; go_simp); try (with_reducible rfl))
                        try simp only [Act.put, lay1, lay2, lay3]
                        refine tko (i := 17) (oi := ⟨some 173, Op.fieldAddr 47 (Operand.tmp 15) 1, _, _, _, _⟩) (v := ?v176) rfl (Or.inl ⟨by rfl, ?hy176⟩) (by assumption) ?_
                        case hy176 => ((intro w0 hSw; go_simp); try (with_reducible rfl))
                        try simp only [Act.put, lay1, lay2, lay3]
                        refine tko (i := 18) (oi := ⟨some 174, Op.load 45 (Operand.tmp 173), _, _, _, _⟩) (v := ?v177) rfl (Or.inl ⟨by rfl, ?hy177⟩) (by assumption) ?_
                        case hy177 => ((intro w0 hSw; obtain ⟨hs1, hs2, hs3, hs4, hs5, hs6⟩ := HK.out w0 hSw; go_simp); try (with_reducible rfl))
                        try simp only [Act.put, lay1, lay2, lay3]
                        refine rdo (i := 19) (o := ⟨some 175, Op.call { callee := Callee.value (Operand.func 27), args := #[(Operand.tmp 174)], argTypes := #[45] }, _, _, _, _⟩) rfl (fun K hK => ?_)
                        go_simp
                        (with_reducible refine (HC0.out _).mono ?_); rintro e wc ⟨rfl, nc, hwc⟩; have hgc : wy.grownBy wc none := (by rw [hwc]; exact tt.grown_drewN hHeld nc); clear hwc
                        refine hK.out _ _ hgc (fun hHeld => ?_)
                        clear hK K
                        try simp only [Act.put, lay1, lay2, lay3]
                        refine tko (i := 20) (oi := ⟨some 176, Op.binOp BinOp.neq 3 (Operand.tmp 175) (Operand.const (Value.int IntKind.i64 0)) _, _, _, _, _⟩) (v := ?v178) rfl (Or.inl ⟨by rfl, ?hy178⟩) (by assumption) ?_
                        case hy178 => ((intro w0 hSw; go_simp); try (with_reducible rfl))
                        try simp only [Act.put, lay1, lay2, lay3]
                        refine tko (i := 21) (oi := ⟨some 177, Op.pick (Operand.tmp 172) (Operand.const (Value.bool true)) (Operand.tmp 176), _, _, _, _⟩) (v := ?v179) rfl (Or.inl ⟨by rfl, ?hy179⟩) (by assumption) ?_
                        case hy179 => ((intro w0 hSw; go_simp); try (with_reducible rfl))
                        try simp only [Act.put, lay1, lay2, lay3]
                        refine tko (i := 22) (oi := ⟨some 178, Op.pick (Operand.tmp 164) (Operand.tmp 177) (Operand.const (Value.bool false)), _, _, _, _⟩) (v := ?v180) rfl (Or.inl ⟨by rfl, ?hy180⟩) (by assumption) ?_
                        case hy180 => ((intro w0 hSw; go_simp); try (with_reducible rfl))
                        try simp only [Act.put, lay1, lay2, lay3]
                        refine wpAnyH_done (by kernel_rfl) ?_ _
                        go_wp2_with fail
                        go_roundw
                        case rel => exact ⟨j + 1, F2, by omega, by go_num, by rw [take_snoc HN.out, stOf_snoc, ← HH1.out, ← HO1.out]; exact HO9.out.grown (grown_trans HGQ.out hHeld)⟩
                        case measure => simp [intOf]; omega
                  · have hd0 : decide (0 ≤ eo) = false := by simpa using h0
                    clear how hn0 h0
                    by_cases hs1 : x0.s = 1
                    · rw [hs1] at HK
                      clear hs1 HGO
                      as_aux_lemma =>
                        refine wp_region_held_drew (S := fun w' => wy.grownBy w' none) (by kernel_rfl) (tt.grown_drew (grown_refl _ _)) (fun hHeld => ?_)
                        generalize wy.drew = wd2 at hHeld ⊢
                        refine tko (i := 0) (oi := ⟨some 135, Op.move (Operand.tmp 19), _, _, _, _⟩) (v := ?v181) rfl (Or.inl ⟨by rfl, ?hy181⟩) (by assumption) ?_
                        case hy181 => ((intro w0 hSw; go_simp); try (with_reducible rfl))
                        try simp only [Act.put, lay1, lay2, lay3]
                        refine tko (i := 1) (oi := ⟨some 136, Op.move (Operand.tmp 135), _, _, _, _⟩) (v := ?v182) rfl (Or.inl ⟨by rfl, ?hy182⟩) (by assumption) ?_
                        case hy182 => ((intro w0 hSw; go_simp); try (with_reducible rfl))
                        try simp only [Act.put, lay1, lay2, lay3]
                        refine tko (i := 2) (oi := ⟨some 137, Op.fieldAddr 31 (Operand.tmp 10) 0, _, _, _, _⟩) (v := ?v183) rfl (Or.inl ⟨by rfl, ?hy183⟩) (by assumption) ?_
                        case hy183 => ((intro w0 hSw; go_simp); try (with_reducible rfl))
                        try simp only [Act.put, lay1, lay2, lay3]
                        refine tko (i := 3) (oi := ⟨some 138, Op.load 5 (Operand.tmp 137), _, _, _, _⟩) (v := ?v184) rfl (Or.inl ⟨by rfl, ?hy184⟩) (by assumption) ?_
                        case hy184 => ((intro w0 hSw; obtain ⟨hs1, hs2, hs3, hs4, hs5, hs6⟩ := HK.out w0 hSw; go_simp); try (with_reducible rfl))
                        try simp only [Act.put, lay1, lay2, lay3]
                        refine rdo (i := 4) (o := ⟨some 139, Op.call { callee := Callee.value (Operand.func 23), args := #[(Operand.tmp 138)], argTypes := #[5] }, _, _, _, _⟩) rfl (fun K hK => ?_)
                        go_simp
                        (with_reducible refine (HNT.out _).mono ?_); rintro e wn ⟨rfl, rfl⟩
                        refine hK.out _ _ hHeld (fun hHeld => ?_)
                        clear hK K
                        try simp only [Act.put, lay1, lay2, lay3]
                        refine tko (i := 5) (oi := ⟨some 140, Op.binOp BinOp.eql 3 (Operand.tmp 139) (Operand.const (Value.int IntKind.i64 0)) _, _, _, _, _⟩) (v := ?v185) rfl (Or.inl ⟨by rfl, ?hy185⟩) (by assumption) ?_
                        case hy185 => ((intro w0 hSw; go_simp); try (with_reducible rfl))
                        try simp only [Act.put, lay1, lay2, lay3]
                        refine tko (i := 6) (oi := ⟨some 141, Op.pick (Operand.tmp 136) (Operand.tmp 140) (Operand.const (Value.bool false)), _, _, _, _⟩) (v := ?v186) rfl (Or.inl ⟨by rfl, ?hy186⟩) (by assumption) ?_
                        case hy186 => ((intro w0 hSw; go_simp); try (with_reducible rfl))
                        try simp only [Act.put, lay1, lay2, lay3]
                        refine tko (i := 7) (oi := ⟨some 142, Op.move (Operand.tmp 141), _, _, _, _⟩) (v := ?v187) rfl (Or.inl ⟨by rfl, ?hy187⟩) (by assumption) ?_
                        case hy187 => ((intro w0 hSw; go_simp); try (with_reducible rfl))
                        try simp only [Act.put, lay1, lay2, lay3]
                        refine tko (i := 8) (oi := ⟨some 143, Op.fieldAddr 47 (Operand.tmp 11) 0, _, _, _, _⟩) (v := ?v188) rfl (Or.inl ⟨by rfl, ?hy188⟩) (by assumption) ?_
                        case hy188 => ((intro w0 hSw; go_simp); try (with_reducible rfl))
                        try simp only [Act.put, lay1, lay2, lay3]
                        refine tko (i := 9) (oi := ⟨some 144, Op.load 3 (Operand.tmp 143), _, _, _, _⟩) (v := ?v189) rfl (Or.inl ⟨by rfl, ?hy189⟩) (by assumption) ?_
                        case hy189 => ((intro w0 hSw; obtain ⟨hs1, hs2, hs3, hs4, hs5, hs6⟩ := HK.out w0 hSw; go_simp); try (with_reducible rfl))
                        try simp only [Act.put, lay1, lay2, lay3]
                        refine tko (i := 10) (oi := ⟨some 145, Op.binOp BinOp.geq 3 (Operand.tmp 144) (Operand.const (Value.int IntKind.i64 0)) _, _, _, _, _⟩) (v := ?v190) rfl (Or.inl ⟨by rfl, ?hy190⟩) (by assumption) ?_
                        case hy190 => ((intro w0 hSw; go_simp); try (with_reducible rfl))
                        try simp only [Act.put, lay1, lay2, lay3]
                        refine tko (i := 11) (oi := ⟨some 146, Op.pick (Operand.tmp 142) (Operand.tmp 145) (Operand.const (Value.bool false)), _, _, _, _⟩) (v := ?v191) rfl (Or.inl ⟨by rfl, ?hy191⟩) (by assumption) ?_
                        case hy191 => ((intro w0 hSw; go_simp); try (with_reducible rfl))
                        try simp only [Act.put, lay1, lay2, lay3]
                        refine tko (i := 12) (oi := ⟨some 147, Op.move (Operand.tmp 146), _, _, _, _⟩) (v := ?v192) rfl (Or.inl ⟨by rfl, ?hy192⟩) (by assumption) ?_
                        case hy192 => ((intro w0 hSw; go_simp); try (with_reducible rfl))
                        try simp only [Act.put, lay1, lay2, lay3]
                        refine tko (i := 13) (oi := ⟨some 148, Op.fieldAddr 47 (Operand.tmp 11) 0, _, _, _, _⟩) (v := undef) rfl (Or.inr ⟨by rfl, rfl⟩) (by assumption) ?_
                        try simp only [Act.put, lay1, lay2, lay3]
                        refine tko (i := 14) (oi := ⟨some 149, Op.load 3 (Operand.tmp 148), _, _, _, _⟩) (v := undef) rfl (Or.inr ⟨by rfl, rfl⟩) (by assumption) ?_
                        try simp only [Act.put, lay1, lay2, lay3]
                        refine tko (i := 15) (oi := ⟨some 150, Op.move (Operand.tmp 13), _, _, _, _⟩) (v := undef) rfl (Or.inr ⟨by rfl, rfl⟩) (by assumption) ?_
                        try simp only [Act.put, lay1, lay2, lay3]
                        refine tko (i := 16) (oi := ⟨some 151, Op.indexAddr 42 (Operand.tmp 150) (Operand.const (Value.int IntKind.i64 0)), _, _, _, _⟩) (v := undef) rfl (Or.inr ⟨by rfl, rfl⟩) (by assumption) ?_
                        try simp only [Act.put, lay1, lay2, lay3]
                        refine tko (i := 17) (oi := ⟨some 152, Op.fieldAddr 31 (Operand.tmp 151) 2, _, _, _, _⟩) (v := undef) rfl (Or.inr ⟨by rfl, rfl⟩) (by assumption) ?_
                        try simp only [Act.put, lay1, lay2, lay3]
                        refine tko (i := 18) (oi := ⟨some 153, Op.load 3 (Operand.tmp 152), _, _, _, _⟩) (v := undef) rfl (Or.inr ⟨by rfl, rfl⟩) (by assumption) ?_
                        try simp only [Act.put, lay1, lay2, lay3]
                        refine tko (i := 19) (oi := ⟨some 154, Op.binOp BinOp.neq 3 (Operand.tmp 149) (Operand.tmp 153) _, _, _, _, _⟩) (v := undef) rfl (Or.inr ⟨by rfl, rfl⟩) (by assumption) ?_
                        try simp only [Act.put, lay1, lay2, lay3]
                        refine tko (i := 20) (oi := ⟨some 155, Op.pick (Operand.tmp 147) (Operand.tmp 154) (Operand.const (Value.bool false)), _, _, _, _⟩) (v := ?v200) rfl (Or.inl ⟨by rfl, ?hy200⟩) (by assumption) ?_
                        case hy200 => ((intro w0 hSw; go_simp); try (with_reducible rfl))
                        try simp only [Act.put, lay1, lay2, lay3]
                        refine wpAnyH_done (by kernel_rfl) ?_ _
                        go_wp2_with fail
                        have HGD := Lib.hid hHeld
                        clear hHeld
                        refine wp_region_held_drew (S := fun w' => wy.grownBy w' none) (by kernel_rfl) (tt.grown_drew HGD.out) (fun hHeld => ?_)
                        generalize World.drew _ = wd3 at hHeld ⊢
                        refine tko (i := 0) (oi := ⟨some 156, Op.move (Operand.tmp 19), _, _, _, _⟩) (v := ?v201) rfl (Or.inl ⟨by rfl, ?hy201⟩) (by assumption) ?_
                        case hy201 => ((intro w0 hSw; go_simp); try (with_reducible rfl))
                        try simp only [Act.put, lay1, lay2, lay3]
                        refine tko (i := 1) (oi := ⟨some 157, Op.move (Operand.tmp 156), _, _, _, _⟩) (v := ?v202) rfl (Or.inl ⟨by rfl, ?hy202⟩) (by assumption) ?_
                        case hy202 => ((intro w0 hSw; go_simp); try (with_reducible rfl))
                        try simp only [Act.put, lay1, lay2, lay3]
                        refine tko (i := 2) (oi := ⟨some 158, Op.move (Operand.tmp 13), _, _, _, _⟩) (v := ?v203) rfl (Or.inl ⟨by rfl, ?hy203⟩) (by assumption) ?_
                        case hy203 => ((intro w0 hSw; go_simp); try (with_reducible rfl))
                        try simp only [Act.put, lay1, lay2, lay3]
                        refine tko (i := 3) (oi := ⟨some 159, Op.indexAddr 42 (Operand.tmp 158) (Operand.const (Value.int IntKind.i64 0)), _, _, _, _⟩) (v := ?v204) rfl (Or.inl ⟨by rfl, ?hy204⟩) (by assumption) ?_
                        case hy204 => ((intro w0 hSw; go_simp); try (with_reducible rfl))
                        try simp only [Act.put, lay1, lay2, lay3]
                        refine tko (i := 4) (oi := ⟨some 160, Op.fieldAddr 31 (Operand.tmp 159) 5, _, _, _, _⟩) (v := ?v205) rfl (Or.inl ⟨by rfl, ?hy205⟩) (by assumption) ?_
                        case hy205 => ((intro w0 hSw; go_simp); try (with_reducible rfl))
                        try simp only [Act.put, lay1, lay2, lay3]
                        refine tko (i := 5) (oi := ⟨some 161, Op.load 26 (Operand.tmp 160), _, _, _, _⟩) (v := ?v206) rfl (Or.inl ⟨by rfl, ?hy206⟩) (by assumption) ?_
                        case hy206 => ((intro w0 hSw; obtain ⟨hs1, hs2, hs3, hs4, hs5, hs6⟩ := HK.out w0 hSw; go_simp); try (with_reducible rfl))
                        try simp only [Act.put, lay1, lay2, lay3]
                        refine tko (i := 6) (oi := ⟨some 162, Op.binOp BinOp.neq 26 (Operand.tmp 161) (Operand.const (Value.int IntKind.u8 1)) _, _, _, _, _⟩) (v := ?v207) rfl (Or.inl ⟨by rfl, ?hy207⟩) (by assumption) ?_
                        case hy207 => ((intro w0 hSw; go_simp); try (with_reducible rfl))
                        try simp only [Act.put, lay1, lay2, lay3]
                        refine tko (i := 7) (oi := ⟨some 163, Op.pick (Operand.tmp 157) (Operand.tmp 162) (Operand.const (Value.bool false)), _, _, _, _⟩) (v := ?v208) rfl (Or.inl ⟨by rfl, ?hy208⟩) (by assumption) ?_
                        case hy208 => ((intro w0 hSw; go_simp); try (with_reducible rfl))
                        try simp only [Act.put, lay1, lay2, lay3]
                        refine tko (i := 8) (oi := ⟨some 164, Op.move (Operand.tmp 163), _, _, _, _⟩) (v := ?v209) rfl (Or.inl ⟨by rfl, ?hy209⟩) (by assumption) ?_
                        case hy209 => ((intro w0 hSw; go_simp); try (with_reducible rfl))
                        try simp only [Act.put, lay1, lay2, lay3]
                        refine tko (i := 9) (oi := ⟨some 165, Op.fieldAddr 47 (Operand.tmp 15) 0, _, _, _, _⟩) (v := undef) rfl (Or.inr ⟨by rfl, rfl⟩) (by assumption) ?_
                        try simp only [Act.put, lay1, lay2, lay3]
                        refine tko (i := 10) (oi := ⟨some 166, Op.load 3 (Operand.tmp 165), _, _, _, _⟩) (v := undef) rfl (Or.inr ⟨by rfl, rfl⟩) (by assumption) ?_
                        try simp only [Act.put, lay1, lay2, lay3]
                        refine tko (i := 11) (oi := ⟨some 167, Op.move (Operand.tmp 13), _, _, _, _⟩) (v := undef) rfl (Or.inr ⟨by rfl, rfl⟩) (by assumption) ?_
                        try simp only [Act.put, lay1, lay2, lay3]
                        refine tko (i := 12) (oi := ⟨some 168, Op.indexAddr 42 (Operand.tmp 167) (Operand.const (Value.int IntKind.i64 0)), _, _, _, _⟩) (v := undef) rfl (Or.inr ⟨by rfl, rfl⟩) (by assumption) ?_
                        try simp only [Act.put, lay1, lay2, lay3]
                        refine tko (i := 13) (oi := ⟨some 169, Op.fieldAddr 31 (Operand.tmp 168) 2, _, _, _, _⟩) (v := undef) rfl (Or.inr ⟨by rfl, rfl⟩) (by assumption) ?_
                        try simp only [Act.put, lay1, lay2, lay3]
                        refine tko (i := 14) (oi := ⟨some 170, Op.load 3 (Operand.tmp 169), _, _, _, _⟩) (v := undef) rfl (Or.inr ⟨by rfl, rfl⟩) (by assumption) ?_
                        try simp only [Act.put, lay1, lay2, lay3]
                        refine tko (i := 15) (oi := ⟨some 171, Op.binOp BinOp.neq 3 (Operand.tmp 166) (Operand.tmp 170) _, _, _, _, _⟩) (v := undef) rfl (Or.inr ⟨by rfl, rfl⟩) (by assumption) ?_
                        try simp only [Act.put, lay1, lay2, lay3]
                        refine tko (i := 16) (oi := ⟨some 172, Op.move (Operand.tmp 171), _, _, _, _⟩) (v := undef) rfl (Or.inr ⟨by rfl, rfl⟩) (by assumption) ?_
                        try simp only [Act.put, lay1, lay2, lay3]
                        refine tko (i := 17) (oi := ⟨some 173, Op.fieldAddr 47 (Operand.tmp 15) 1, _, _, _, _⟩) (v := undef) rfl (Or.inr ⟨by rfl, rfl⟩) (by assumption) ?_
                        try simp only [Act.put, lay1, lay2, lay3]
                        refine tko (i := 18) (oi := ⟨some 174, Op.load 45 (Operand.tmp 173), _, _, _, _⟩) (v := undef) rfl (Or.inr ⟨by rfl, rfl⟩) (by assumption) ?_
                        try simp only [Act.put, lay1, lay2, lay3]
                        refine tko (i := 19) (oi := ⟨some 175, Op.call { callee := Callee.value (Operand.func 27), args := #[(Operand.tmp 174)], argTypes := #[45] }, _, _, _, _⟩) (v := undef) rfl (Or.inr ⟨by rfl, rfl⟩) (by assumption) ?_
                        try simp only [Act.put, lay1, lay2, lay3]
                        refine tko (i := 20) (oi := ⟨some 176, Op.binOp BinOp.neq 3 (Operand.tmp 175) (Operand.const (Value.int IntKind.i64 0)) _, _, _, _, _⟩) (v := undef) rfl (Or.inr ⟨by rfl, rfl⟩) (by assumption) ?_
                        try simp only [Act.put, lay1, lay2, lay3]
                        refine tko (i := 21) (oi := ⟨some 177, Op.pick (Operand.tmp 172) (Operand.const (Value.bool true)) (Operand.tmp 176), _, _, _, _⟩) (v := undef) rfl (Or.inr ⟨by rfl, rfl⟩) (by assumption) ?_
                        try simp only [Act.put, lay1, lay2, lay3]
                        refine tko (i := 22) (oi := ⟨some 178, Op.pick (Operand.tmp 164) (Operand.tmp 177) (Operand.const (Value.bool false)), _, _, _, _⟩) (v := ?v223) rfl (Or.inl ⟨by rfl, ?hy223⟩) (by assumption) ?_
                        case hy223 => ((intro w0 hSw; go_simp); try (with_reducible rfl))
                        try simp only [Act.put, lay1, lay2, lay3]
                        refine wpAnyH_done (by kernel_rfl) ?_ _
                        go_wp2_with fail
                        go_roundw
                        case rel => exact ⟨j + 1, F2, by omega, by go_num, by rw [take_snoc HN.out, stOf_snoc, ← HH1.out, ← HO1.out]; exact HO9.out.grown (grown_trans HGQ.out hHeld)⟩
                        case measure => simp [intOf]; omega
                    · have hs : (x0.s != 1) = true := by simpa using hs1
                      have he := HGO.out hs1
                      have hq1 : no = x0.t := by rw [← HNO.out, he]
                      have hq2 : nz = 0 := by rw [← HNZ.out, he]; rfl
                      rw [hq1, hq2] at HK
                      clear hs1 HGO he hq1 hq2
                      as_aux_lemma =>
                        refine wp_region_held_drew (S := fun w' => wy.grownBy w' none) (by kernel_rfl) (tt.grown_drew (grown_refl _ _)) (fun hHeld => ?_)
                        generalize wy.drew = wd2 at hHeld ⊢
                        refine tko (i := 0) (oi := ⟨some 135, Op.move (Operand.tmp 19), _, _, _, _⟩) (v := ?v224) rfl (Or.inl ⟨by rfl, ?hy224⟩) (by assumption) ?_
                        case hy224 => ((intro w0 hSw; go_simp); try (with_reducible rfl))
                        try simp only [Act.put, lay1, lay2, lay3]
                        refine tko (i := 1) (oi := ⟨some 136, Op.move (Operand.tmp 135), _, _, _, _⟩) (v := ?v225) rfl (Or.inl ⟨by rfl, ?hy225⟩) (by assumption) ?_
                        case hy225 => ((intro w0 hSw; go_simp); try (with_reducible rfl))
                        try simp only [Act.put, lay1, lay2, lay3]
                        refine tko (i := 2) (oi := ⟨some 137, Op.fieldAddr 31 (Operand.tmp 10) 0, _, _, _, _⟩) (v := ?v226) rfl (Or.inl ⟨by rfl, ?hy226⟩) (by assumption) ?_
                        case hy226 => ((intro w0 hSw; go_simp); try (with_reducible rfl))
                        try simp only [Act.put, lay1, lay2, lay3]
                        refine tko (i := 3) (oi := ⟨some 138, Op.load 5 (Operand.tmp 137), _, _, _, _⟩) (v := ?v227) rfl (Or.inl ⟨by rfl, ?hy227⟩) (by assumption) ?_
                        case hy227 => ((intro w0 hSw; obtain ⟨hs1, hs2, hs3, hs4, hs5, hs6⟩ := HK.out w0 hSw; go_simp); try (with_reducible rfl))
                        try simp only [Act.put, lay1, lay2, lay3]
                        refine rdo (i := 4) (o := ⟨some 139, Op.call { callee := Callee.value (Operand.func 23), args := #[(Operand.tmp 138)], argTypes := #[5] }, _, _, _, _⟩) rfl (fun K hK => ?_)
                        go_simp
                        (with_reducible refine (HNT.out _).mono ?_); rintro e wn ⟨rfl, rfl⟩
                        refine hK.out _ _ hHeld (fun hHeld => ?_)
                        clear hK K
                        try simp only [Act.put, lay1, lay2, lay3]
                        refine tko (i := 5) (oi := ⟨some 140, Op.binOp BinOp.eql 3 (Operand.tmp 139) (Operand.const (Value.int IntKind.i64 0)) _, _, _, _, _⟩) (v := ?v228) rfl (Or.inl ⟨by rfl, ?hy228⟩) (by assumption) ?_
                        case hy228 => ((intro w0 hSw; go_simp); try (with_reducible rfl))
                        try simp only [Act.put, lay1, lay2, lay3]
                        refine tko (i := 6) (oi := ⟨some 141, Op.pick (Operand.tmp 136) (Operand.tmp 140) (Operand.const (Value.bool false)), _, _, _, _⟩) (v := ?v229) rfl (Or.inl ⟨by rfl, ?hy229⟩) (by assumption) ?_
                        case hy229 => ((intro w0 hSw; go_simp); try (with_reducible rfl))
                        try simp only [Act.put, lay1, lay2, lay3]
                        refine tko (i := 7) (oi := ⟨some 142, Op.move (Operand.tmp 141), _, _, _, _⟩) (v := ?v230) rfl (Or.inl ⟨by rfl, ?hy230⟩) (by assumption) ?_
                        case hy230 => ((intro w0 hSw; go_simp); try (with_reducible rfl))
                        try simp only [Act.put, lay1, lay2, lay3]
                        refine tko (i := 8) (oi := ⟨some 143, Op.fieldAddr 47 (Operand.tmp 11) 0, _, _, _, _⟩) (v := ?v231) rfl (Or.inl ⟨by rfl, ?hy231⟩) (by assumption) ?_
                        case hy231 => ((intro w0 hSw; go_simp); try (with_reducible rfl))
                        try simp only [Act.put, lay1, lay2, lay3]
                        refine tko (i := 9) (oi := ⟨some 144, Op.load 3 (Operand.tmp 143), _, _, _, _⟩) (v := ?v232) rfl (Or.inl ⟨by rfl, ?hy232⟩) (by assumption) ?_
                        case hy232 => ((intro w0 hSw; obtain ⟨hs1, hs2, hs3, hs4, hs5, hs6⟩ := HK.out w0 hSw; go_simp); try (with_reducible rfl))
                        try simp only [Act.put, lay1, lay2, lay3]
                        refine tko (i := 10) (oi := ⟨some 145, Op.binOp BinOp.geq 3 (Operand.tmp 144) (Operand.const (Value.int IntKind.i64 0)) _, _, _, _, _⟩) (v := ?v233) rfl (Or.inl ⟨by rfl, ?hy233⟩) (by assumption) ?_
                        case hy233 => ((intro w0 hSw; go_simp); try (with_reducible rfl))
                        try simp only [Act.put, lay1, lay2, lay3]
                        refine tko (i := 11) (oi := ⟨some 146, Op.pick (Operand.tmp 142) (Operand.tmp 145) (Operand.const (Value.bool false)), _, _, _, _⟩) (v := ?v234) rfl (Or.inl ⟨by rfl, ?hy234⟩) (by assumption) ?_
                        case hy234 => ((intro w0 hSw; go_simp); try (with_reducible rfl))
                        try simp only [Act.put, lay1, lay2, lay3]
                        refine tko (i := 12) (oi := ⟨some 147, Op.move (Operand.tmp 146), _, _, _, _⟩) (v := ?v235) rfl (Or.inl ⟨by rfl, ?hy235⟩) (by assumption) ?_
                        case hy235 => ((intro w0 hSw; go_simp); try (with_reducible rfl))
                        try simp only [Act.put, lay1, lay2, lay3]
                        refine tko (i := 13) (oi := ⟨some 148, Op.fieldAddr 47 (Operand.tmp 11) 0, _, _, _, _⟩) (v := undef) rfl (Or.inr ⟨by rfl, rfl⟩) (by assumption) ?_
                        try simp only [Act.put, lay1, lay2, lay3]
                        refine tko (i := 14) (oi := ⟨some 149, Op.load 3 (Operand.tmp 148), _, _, _, _⟩) (v := undef) rfl (Or.inr ⟨by rfl, rfl⟩) (by assumption) ?_
                        try simp only [Act.put, lay1, lay2, lay3]
                        refine tko (i := 15) (oi := ⟨some 150, Op.move (Operand.tmp 13), _, _, _, _⟩) (v := undef) rfl (Or.inr ⟨by rfl, rfl⟩) (by assumption) ?_
                        try simp only [Act.put, lay1, lay2, lay3]
                        refine tko (i := 16) (oi := ⟨some 151, Op.indexAddr 42 (Operand.tmp 150) (Operand.const (Value.int IntKind.i64 0)), _, _, _, _⟩) (v := undef) rfl (Or.inr ⟨by rfl, rfl⟩) (by assumption) ?_
                        try simp only [Act.put, lay1, lay2, lay3]
                        refine tko (i := 17) (oi := ⟨some 152, Op.fieldAddr 31 (Operand.tmp 151) 2, _, _, _, _⟩) (v := undef) rfl (Or.inr ⟨by rfl, rfl⟩) (by assumption) ?_
                        try simp only [Act.put, lay1, lay2, lay3]
                        refine tko (i := 18) (oi := ⟨some 153, Op.load 3 (Operand.tmp 152), _, _, _, _⟩) (v := undef) rfl (Or.inr ⟨by rfl, rfl⟩) (by assumption) ?_
                        try simp only [Act.put, lay1, lay2, lay3]
                        refine tko (i := 19) (oi := ⟨some 154, Op.binOp BinOp.neq 3 (Operand.tmp 149) (Operand.tmp 153) _, _, _, _, _⟩) (v := undef) rfl (Or.inr ⟨by rfl, rfl⟩) (by assumption) ?_
                        try simp only [Act.put, lay1, lay2, lay3]
                        refine tko (i := 20) (oi := ⟨some 155, Op.pick (Operand.tmp 147) (Operand.tmp 154) (Operand.const (Value.bool false)), _, _, _, _⟩) (v := ?v243) rfl (Or.inl ⟨by rfl, ?hy243⟩) (by assumption) ?_
                        case hy243 => ((intro w0 hSw; go_simp); try (with_reducible rfl))
                        try simp only [Act.put, lay1, lay2, lay3]
                        refine wpAnyH_done (by kernel_rfl) ?_ _
                        go_wp2_with fail
                        have HGD := Lib.hid hHeld
                        clear hHeld
                        refine wp_region_held_drew (S := fun w' => wy.grownBy w' none) (by kernel_rfl) (tt.grown_drew HGD.out) (fun hHeld => ?_)
                        generalize World.drew _ = wd3 at hHeld ⊢
                        refine tko (i := 0) (oi := ⟨some 156, Op.move (Operand.tmp 19), _, _, _, _⟩) (v := ?v244) rfl (Or.inl ⟨by rfl, ?hy244⟩) (by assumption) ?_
                        case hy244 => ((intro w0 hSw; go_simp); try (with_reducible rfl))
                        try simp only [Act.put, lay1, lay2, lay3]
                        refine tko (i := 1) (oi := ⟨some 157, Op.move (Operand.tmp 156), _, _, _, _⟩) (v := ?v245) rfl (Or.inl ⟨by rfl, ?hy245⟩) (by assumption) ?_
                        case hy245 => ((intro w0 hSw; go_simp); try (with_reducible rfl))
                        try simp only [Act.put, lay1, lay2, lay3]
                        refine tko (i := 2) (oi := ⟨some 158, Op.move (Operand.tmp 13), _, _, _, _⟩) (v := ?v246) rfl (Or.inl ⟨by rfl, ?hy246⟩) (by assumption) ?_
                        case hy246 => ((intro w0 hSw; go_simp); try (with_reducible rfl))
                        try simp only [Act.put, lay1, lay2, lay3]
                        refine tko (i := 3) (oi := ⟨some 159, Op.indexAddr 42 (Operand.tmp 158) (Operand.const (Value.int IntKind.i64 0)), _, _, _, _⟩) (v := ?v247) rfl (Or.inl ⟨by rfl, ?hy247⟩) (by assumption) ?_
                        case hy247 => ((intro w0 hSw; go_simp); try (with_reducible rfl))
                        try simp only [Act.put, lay1, lay2, lay3]
                        refine tko (i := 4) (oi := ⟨some 160, Op.fieldAddr 31 (Operand.tmp 159) 5, _, _, _, _⟩) (v := ?v248) rfl (Or.inl ⟨by rfl, ?hy248⟩) (by assumption) ?_
                        case hy248 => ((intro w0 hSw; go_simp); try (with_reducible rfl))
                        try simp only [Act.put, lay1, lay2, lay3]
                        refine tko (i := 5) (oi := ⟨some 161, Op.load 26 (Operand.tmp 160), _, _, _, _⟩) (v := ?v249) rfl (Or.inl ⟨by rfl, ?hy249⟩) (by assumption) ?_
                        case hy249 => ((intro w0 hSw; obtain ⟨hs1, hs2, hs3, hs4, hs5, hs6⟩ := HK.out w0 hSw; go_simp); try (with_reducible rfl))
                        try simp only [Act.put, lay1, lay2, lay3]
                        refine tko (i := 6) (oi := ⟨some 162, Op.binOp BinOp.neq 26 (Operand.tmp 161) (Operand.const (Value.int IntKind.u8 1)) _, _, _, _, _⟩) (v := ?v250) rfl (Or.inl ⟨by rfl, ?hy250⟩) (by assumption) ?_
                        case hy250 => ((intro w0 hSw; go_simp); try (with_reducible rfl))
                        try simp only [Act.put, lay1, lay2, lay3]
                        refine tko (i := 7) (oi := ⟨some 163, Op.pick (Operand.tmp 157) (Operand.tmp 162) (Operand.const (Value.bool false)), _, _, _, _⟩) (v := ?v251) rfl (Or.inl ⟨by rfl, ?hy251⟩) (by assumption) ?_
                        case hy251 => ((intro w0 hSw; go_simp); try (with_reducible rfl))
                        try simp only [Act.put, lay1, lay2, lay3]
                        refine tko (i := 8) (oi := ⟨some 164, Op.move (Operand.tmp 163), _, _, _, _⟩) (v := ?v252) rfl (Or.inl ⟨by rfl, ?hy252⟩) (by assumption) ?_
                        case hy252 => ((intro w0 hSw; go_simp); try (with_reducible rfl))
                        try simp only [Act.put, lay1, lay2, lay3]
                        refine tko (i := 9) (oi := ⟨some 165, Op.fieldAddr 47 (Operand.tmp 15) 0, _, _, _, _⟩) (v := ?v253) rfl (Or.inl ⟨by rfl, ?hy253⟩) (by assumption) ?_
                        case hy253 => ((intro w0 hSw; go_simp); try (with_reducible rfl))
                        try simp only [Act.put, lay1, lay2, lay3]
                        refine tko (i := 10) (oi := ⟨some 166, Op.load 3 (Operand.tmp 165), _, _, _, _⟩) (v := ?v254) rfl (Or.inl ⟨by rfl, ?hy254⟩) (by assumption) ?_
                        case hy254 => ((intro w0 hSw; obtain ⟨hs1, hs2, hs3, hs4, hs5, hs6⟩ := HK.out w0 hSw; go_simp); try (with_reducible rfl))
                        try simp only [Act.put, lay1, lay2, lay3]
                        refine tko (i := 11) (oi := ⟨some 167, Op.move (Operand.tmp 13), _, _, _, _⟩) (v := ?v255) rfl (Or.inl ⟨by rfl, ?hy255⟩) (by assumption) ?_
                        case hy255 => ((intro w0 hSw; go_simp); try (with_reducible rfl))
                        try simp only [Act.put, lay1, lay2, lay3]
                        refine tko (i := 12) (oi := ⟨some 168, Op.indexAddr 42 (Operand.tmp 167) (Operand.const (Value.int IntKind.i64 0)), _, _, _, _⟩) (v := ?v256) rfl (Or.inl ⟨by rfl, ?hy256⟩) (by assumption) ?_
                        case hy256 => ((intro w0 hSw; go_simp); try (with_reducible rfl))
                        try simp only [Act.put, lay1, lay2, lay3]
                        refine tko (i := 13) (oi := ⟨some 169, Op.fieldAddr 31 (Operand.tmp 168) 2, _, _, _, _⟩) (v := ?v257) rfl (Or.inl ⟨by rfl, ?hy257⟩) (by assumption) ?_
                        case hy257 => ((intro w0 hSw; go_simp); try (with_reducible rfl))
                        try simp only [Act.put, lay1, lay2, lay3]
                        refine tko (i := 14) (oi := ⟨some 170, Op.load 3 (Operand.tmp 169), _, _, _, _⟩) (v := ?v258) rfl (Or.inl ⟨by rfl, ?hy258⟩) (by assumption) ?_
                        case hy258 => ((intro w0 hSw; obtain ⟨hs1, hs2, hs3, hs4, hs5, hs6⟩ := HK.out w0 hSw; go_simp); try (with_reducible rfl))
                        try simp only [Act.put, lay1, lay2, lay3]
                        refine tko (i := 15) (oi := ⟨some 171, Op.binOp BinOp.neq 3 (Operand.tmp 166) (Operand.tmp 170) _, _, _, _, _⟩) (v := ?v259) rfl (Or.inl ⟨by rfl, ?hy259⟩) (by assumption) ?_
                        case hy259 => ((intro w0 hSw; go_simp); try (with_reducible rfl))
                        try simp only [Act.put, lay1, lay2, lay3]
                        refine tko (i := 16) (oi := ⟨some 172, Op.move (Operand.tmp 171), _, _, _, _⟩) (v := ?v260) rfl (Or.inl ⟨by rfl, ?hy260⟩) (by assumption) ?_
                        case hy260 => ((intro w0 hSw; go_simp); try (with_reducible rfl))
                        try simp only [Act.put, lay1, lay2, lay3]
                        refine tko (i := 17) (oi := ⟨some 173, Op.fieldAddr 47 (Operand.tmp 15) 1, _, _, _, _⟩) (v := ?v261) rfl (Or.inl ⟨by rfl, ?hy261⟩) (by assumption) ?_
                        case hy261 => ((intro w0 hSw; go_simp); try (with_reducible rfl))
                        try simp only [Act.put, lay1, lay2, lay3]
                        refine tko (i := 18) (oi := ⟨some 174, Op.load 45 (Operand.tmp 173), _, _, _, _⟩) (v := ?v262) rfl (Or.inl ⟨by rfl, ?hy262⟩) (by assumption) ?_
                        case hy262 => ((intro w0 hSw; obtain ⟨hs1, hs2, hs3, hs4, hs5, hs6⟩ := HK.out w0 hSw; go_simp); try (with_reducible rfl))
                        try simp only [Act.put, lay1, lay2, lay3]
                        refine rdo (i := 19) (o := ⟨some 175, Op.call { callee := Callee.value (Operand.func 27), args := #[(Operand.tmp 174)], argTypes := #[45] }, _, _, _, _⟩) rfl (fun K hK => ?_)
                        go_simp
                        (with_reducible refine (HC0.out _).mono ?_); rintro e wc ⟨rfl, nc, hwc⟩; have hgc : wy.grownBy wc none := (by rw [hwc]; exact tt.grown_drewN hHeld nc); clear hwc
                        refine hK.out _ _ hgc (fun hHeld => ?_)
                        clear hK K
                        try simp only [Act.put, lay1, lay2, lay3]
                        refine tko (i := 20) (oi := ⟨some 176, Op.binOp BinOp.neq 3 (Operand.tmp 175) (Operand.const (Value.int IntKind.i64 0)) _, _, _, _, _⟩) (v := ?v263) rfl (Or.inl ⟨by rfl, ?hy263⟩) (by assumption) ?_
                        case hy263 => ((intro w0 hSw; go_simp); try (with_reducible rfl))
                        try simp only [Act.put, lay1, lay2, lay3]
                        refine tko (i := 21) (oi := ⟨some 177, Op.pick (Operand.tmp 172) (Operand.const (Value.bool true)) (Operand.tmp 176), _, _, _, _⟩) (v := ?v264) rfl (Or.inl ⟨by rfl, ?hy264⟩) (by assumption) ?_
                        case hy264 => ((intro w0 hSw; go_simp); try (with_reducible rfl))
                        try simp only [Act.put, lay1, lay2, lay3]
                        refine tko (i := 22) (oi := ⟨some 178, Op.pick (Operand.tmp 164) (Operand.tmp 177) (Operand.const (Value.bool false)), _, _, _, _⟩) (v := ?v265) rfl (Or.inl ⟨by rfl, ?hy265⟩) (by assumption) ?_
                        case hy265 => ((intro w0 hSw; go_simp); try (with_reducible rfl))
                        try simp only [Act.put, lay1, lay2, lay3]
                        refine wpAnyH_done (by kernel_rfl) ?_ _
                        go_wp2_with fail
                        go_roundw
                        case rel => exact ⟨j + 1, F2, by omega, by go_num, by rw [take_snoc HN.out, stOf_snoc, ← HH1.out, ← HO1.out]; exact HO9.out.grown (grown_trans HGQ.out hHeld)⟩
                        case measure => simp [intOf]; omega
                · have hd0 : (net n.k == 0) = false := by simpa using hn0
                  clear how hn0
                  by_cases hs1 : x0.s = 1
                  · rw [hs1] at HK
                    clear hs1 HGO
                    as_aux_lemma =>
                      refine wp_region_held_drew (S := fun w' => wy.grownBy w' none) (by kernel_rfl) (tt.grown_drew (grown_refl _ _)) (fun hHeld => ?_)
                      generalize wy.drew = wd2 at hHeld ⊢
                      refine tko (i := 0) (oi := ⟨some 135, Op.move (Operand.tmp 19), _, _, _, _⟩) (v := ?v266) rfl (Or.inl ⟨by rfl, ?hy266⟩) (by assumption) ?_
                      case hy266 => ((intro w0 hSw; go_simp); try (with_reducible rfl))
                      try simp only [Act.put, lay1, lay2, lay3]
                      refine tko (i := 1) (oi := ⟨some 136, Op.move (Operand.tmp 135), _, _, _, _⟩) (v := ?v267) rfl (Or.inl ⟨by rfl, ?hy267⟩) (by assumption) ?_
                      case hy267 => ((intro w0 hSw; go_simp); try (with_reducible rfl))
                      try simp only [Act.put, lay1, lay2, lay3]
                      refine tko (i := 2) (oi := ⟨some 137, Op.fieldAddr 31 (Operand.tmp 10) 0, _, _, _, _⟩) (v := ?v268) rfl (Or.inl ⟨by rfl, ?hy268⟩) (by assumption) ?_
                      case hy268 => ((intro w0 hSw; go_simp); try (with_reducible rfl))
                      try simp only [Act.put, lay1, lay2, lay3]
                      refine tko (i := 3) (oi := ⟨some 138, Op.load 5 (Operand.tmp 137), _, _, _, _⟩) (v := ?v269) rfl (Or.inl ⟨by rfl, ?hy269⟩) (by assumption) ?_
                      case hy269 => ((intro w0 hSw; obtain ⟨hs1, hs2, hs3, hs4, hs5, hs6⟩ := HK.out w0 hSw; go_simp); try (with_reducible rfl))
                      try simp only [Act.put, lay1, lay2, lay3]
                      refine rdo (i := 4) (o := ⟨some 139, Op.call { callee := Callee.value (Operand.func 23), args := #[(Operand.tmp 138)], argTypes := #[5] }, _, _, _, _⟩) rfl (fun K hK => ?_)
                      go_simp
                      (with_reducible refine (HNT.out _).mono ?_); rintro e wn ⟨rfl, rfl⟩
                      refine hK.out _ _ hHeld (fun hHeld => ?_)
                      clear hK K
                      try simp only [Act.put, lay1, lay2, lay3]
                      refine tko (i := 5) (oi := ⟨some 140, Op.binOp BinOp.eql 3 (Operand.tmp 139) (Operand.const (Value.int IntKind.i64 0)) _, _, _, _, _⟩) (v := ?v270) rfl (Or.inl ⟨by rfl, ?hy270⟩) (by assumption) ?_
                      case hy270 => ((intro w0 hSw; go_simp); try (with_reducible rfl))
                      try simp only [Act.put, lay1, lay2, lay3]
                      refine tko (i := 6) (oi := ⟨some 141, Op.pick (Operand.tmp 136) (Operand.tmp 140) (Operand.const (Value.bool false)), _, _, _, _⟩) (v := ?v271) rfl (Or.inl ⟨by rfl, ?hy271⟩) (by assumption) ?_
                      case hy271 => ((intro w0 hSw; go_simp); try (with_reducible rfl))
                      try simp only [Act.put, lay1, lay2, lay3]
                      refine tko (i := 7) (oi := ⟨some 142, Op.move (Operand.tmp 141), _, _, _, _⟩) (v := ?v272) rfl (Or.inl ⟨by rfl, ?hy272⟩) (by assumption) ?_
                      case hy272 => ((intro w0 hSw; go_simp); try (with_reducible rfl))
                      try simp only [Act.put, lay1, lay2, lay3]
                      refine tko (i := 8) (oi := ⟨some 143, Op.fieldAddr 47 (Operand.tmp 11) 0, _, _, _, _⟩) (v := undef) rfl (Or.inr ⟨by rfl, rfl⟩) (by assumption) ?_
                      try simp only [Act.put, lay1, lay2, lay3]
                      refine tko (i := 9) (oi := ⟨some 144, Op.load 3 (Operand.tmp 143), _, _, _, _⟩) (v := undef) rfl (Or.inr ⟨by rfl, rfl⟩) (by assumption) ?_
                      try simp only [Act.put, lay1, lay2, lay3]
                      refine tko (i := 10) (oi := ⟨some 145, Op.binOp BinOp.geq 3 (Operand.tmp 144) (Operand.const (Value.int IntKind.i64 0)) _, _, _, _, _⟩) (v := undef) rfl (Or.inr ⟨by rfl, rfl⟩) (by assumption) ?_
                      try simp only [Act.put, lay1, lay2, lay3]
                      refine tko (i := 11) (oi := ⟨some 146, Op.pick (Operand.tmp 142) (Operand.tmp 145) (Operand.const (Value.bool false)), _, _, _, _⟩) (v := ?v276) rfl (Or.inl ⟨by rfl, ?hy276⟩) (by assumption) ?_
                      case hy276 => ((intro w0 hSw; go_simp); try (with_reducible rfl))
                      try simp only [Act.put, lay1, lay2, lay3]
                      refine tko (i := 12) (oi := ⟨some 147, Op.move (Operand.tmp 146), _, _, _, _⟩) (v := ?v277) rfl (Or.inl ⟨by rfl, ?hy277⟩) (by assumption) ?_
                      case hy277 => ((intro w0 hSw; go_simp); try (with_reducible rfl))
                      try simp only [Act.put, lay1, lay2, lay3]
                      refine tko (i := 13) (oi := ⟨some 148, Op.fieldAddr 47 (Operand.tmp 11) 0, _, _, _, _⟩) (v := undef) rfl (Or.inr ⟨by rfl, rfl⟩) (by assumption) ?_
                      try simp only [Act.put, lay1, lay2, lay3]
                      refine tko (i := 14) (oi := ⟨some 149, Op.load 3 (Operand.tmp 148), _, _, _, _⟩) (v := undef) rfl (Or.inr ⟨by rfl, rfl⟩) (by assumption) ?_
                      try simp only [Act.put, lay1, lay2, lay3]
                      refine tko (i := 15) (oi := ⟨some 150, Op.move (Operand.tmp 13), _, _, _, _⟩) (v := undef) rfl (Or.inr ⟨by rfl, rfl⟩) (by assumption) ?_
                      try simp only [Act.put, lay1, lay2, lay3]
                      refine tko (i := 16) (oi := ⟨some 151, Op.indexAddr 42 (Operand.tmp 150) (Operand.const (Value.int IntKind.i64 0)), _, _, _, _⟩) (v := undef) rfl (Or.inr ⟨by rfl, rfl⟩) (by assumption) ?_
                      try simp only [Act.put, lay1, lay2, lay3]
                      refine tko (i := 17) (oi := ⟨some 152, Op.fieldAddr 31 (Operand.tmp 151) 2, _, _, _, _⟩) (v := undef) rfl (Or.inr ⟨by rfl, rfl⟩) (by assumption) ?_
                      try simp only [Act.put, lay1, lay2, lay3]
                      refine tko (i := 18) (oi := ⟨some 153, Op.load 3 (Operand.tmp 152), _, _, _, _⟩) (v := undef) rfl (Or.inr ⟨by rfl, rfl⟩) (by assumption) ?_
                      try simp only [Act.put, lay1, lay2, lay3]
                      refine tko (i := 19) (oi := ⟨some 154, Op.binOp BinOp.neq 3 (Operand.tmp 149) (Operand.tmp 153) _, _, _, _, _⟩) (v := undef) rfl (Or.inr ⟨by rfl, rfl⟩) (by assumption) ?_
                      try simp only [Act.put, lay1, lay2, lay3]
                      refine tko (i := 20) (oi := ⟨some 155, Op.pick (Operand.tmp 147) (Operand.tmp 154) (Operand.const (Value.bool false)), _, _, _, _⟩) (v := ?v285) rfl (Or.inl ⟨by rfl, ?hy285⟩) (by assumption) ?_
                      case hy285 => ((intro w0 hSw; go_simp); try (with_reducible rfl))
                      try simp only [Act.put, lay1, lay2, lay3]
                      refine wpAnyH_done (by kernel_rfl) ?_ _
                      go_wp2_with fail
                      have HGD := Lib.hid hHeld
                      clear hHeld
                      refine wp_region_held_drew (S := fun w' => wy.grownBy w' none) (by kernel_rfl) (tt.grown_drew HGD.out) (fun hHeld => ?_)
                      generalize World.drew _ = wd3 at hHeld ⊢
                      refine tko (i := 0) (oi := ⟨some 156, Op.move (Operand.tmp 19), _, _, _, _⟩) (v := ?v286) rfl (Or.inl ⟨by rfl, ?hy286⟩) (by assumption) ?_
                      case hy286 => ((intro w0 hSw; go_simp); try (with_reducible rfl))
                      try simp only [Act.put, lay1, lay2, lay3]
                      refine tko (i := 1) (oi := ⟨some 157, Op.move (Operand.tmp 156), _, _, _, _⟩) (v := ?v287) rfl (Or.inl ⟨by rfl, ?hy287⟩) (by assumption) ?_
                      case hy287 => ((intro w0 hSw; go_simp); try (with_reducible rfl))
                      try simp only [Act.put, lay1, lay2, lay3]
                      refine tko (i := 2) (oi := ⟨some 158, Op.move (Operand.tmp 13), _, _, _, _⟩) (v := ?v288) rfl (Or.inl ⟨by rfl, ?hy288⟩) (by assumption) ?_
                      case hy288 => ((intro w0 hSw; go_simp); try (with_reducible rfl))
                      try simp only [Act.put, lay1, lay2, lay3]
                      refine tko (i := 3) (oi := ⟨some 159, Op.indexAddr 42 (Operand.tmp 158) (Operand.const (Value.int IntKind.i64 0)), _, _, _, _⟩) (v := ?v289) rfl (Or.inl ⟨by rfl, ?hy289⟩) (by assumption) ?_
                      case hy289 => ((intro w0 hSw; go_simp); try (with_reducible rfl))
                      try simp only [Act.put, lay1, lay2, lay3]
                      refine tko (i := 4) (oi := ⟨some 160, Op.fieldAddr 31 (Operand.tmp 159) 5, _, _, _, _⟩) (v := ?v290) rfl (Or.inl ⟨by rfl, ?hy290⟩) (by assumption) ?_
                      case hy290 => ((intro w0 hSw; go_simp); try (with_reducible rfl))
                      try simp only [Act.put, lay1, lay2, lay3]
                      refine tko (i := 5) (oi := ⟨some 161, Op.load 26 (Operand.tmp 160), _, _, _, _⟩) (v := ?v291) rfl (Or.inl ⟨by rfl, ?hy291⟩) (by assumption) ?_
                      case hy291 => ((intro w0 hSw; obtain ⟨hs1, hs2, hs3, hs4, hs5, hs6⟩ := HK.out w0 hSw; go_simp); try (with_reducible rfl))
                      try simp only [Act.put, lay1, lay2, lay3]
                      refine tko (i := 6) (oi := ⟨some 162, Op.binOp BinOp.neq 26 (Operand.tmp 161) (Operand.const (Value.int IntKind.u8 1)) _, _, _, _, _⟩) (v := ?v292) rfl (Or.inl ⟨by rfl, ?hy292⟩) (by assumption) ?_
                      case hy292 => ((intro w0 hSw; go_simp); try (with_reducible rfl))
                      try simp only [Act.put, lay1, lay2, lay3]
                      refine tko (i := 7) (oi := ⟨some 163, Op.pick (Operand.tmp 157) (Operand.tmp 162) (Operand.const (Value.bool false)), _, _, _, _⟩) (v := ?v293) rfl (Or.inl ⟨by rfl, ?hy293⟩) (by assumption) ?_
                      case hy293 => ((intro w0 hSw; go_simp); try (with_reducible rfl))
                      try simp only [Act.put, lay1, lay2, lay3]
                      refine tko (i := 8) (oi := ⟨some 164, Op.move (Operand.tmp 163), _, _, _, _⟩) (v := ?v294) rfl (Or.inl ⟨by rfl, ?hy294⟩) (by assumption) ?_
                      case hy294 => ((intro w0 hSw; go_simp); try (with_reducible rfl))
                      try simp only [Act.put, lay1, lay2, lay3]
                      refine tko (i := 9) (oi := ⟨some 165, Op.fieldAddr 47 (Operand.tmp 15) 0, _, _, _, _⟩) (v := undef) rfl (Or.inr ⟨by rfl, rfl⟩) (by assumption) ?_
                      try simp only [Act.put, lay1, lay2, lay3]
                      refine tko (i := 10) (oi := ⟨some 166, Op.load 3 (Operand.tmp 165), _, _, _, _⟩) (v := undef) rfl (Or.inr ⟨by rfl, rfl⟩) (by assumption) ?_
                      try simp only [Act.put, lay1, lay2, lay3]
                      refine tko (i := 11) (oi := ⟨some 167, Op.move (Operand.tmp 13), _, _, _, _⟩) (v := undef) rfl (Or.inr ⟨by rfl, rfl⟩) (by assumption) ?_
                      try simp only [Act.put, lay1, lay2, lay3]
                      refine tko (i := 12) (oi := ⟨some 168, Op.indexAddr 42 (Operand.tmp 167) (Operand.const (Value.int IntKind.i64 0)), _, _, _, _⟩) (v := undef) rfl (Or.inr ⟨by rfl, rfl⟩) (by assumption) ?_
                      try simp only [Act.put, lay1, lay2, lay3]
                      refine tko (i := 13) (oi := ⟨some 169, Op.fieldAddr 31 (Operand.tmp 168) 2, _, _, _, _⟩) (v := undef) rfl (Or.inr ⟨by rfl, rfl⟩) (by assumption) ?_
                      try simp only [Act.put, lay1, lay2, lay3]
                      refine tko (i := 14) (oi := ⟨some 170, Op.load 3 (Operand.tmp 169), _, _, _, _⟩) (v := undef) rfl (Or.inr ⟨by rfl, rfl⟩) (by assumption) ?_
                      try simp only [Act.put, lay1, lay2, lay3]
                      refine tko (i := 15) (oi := ⟨some 171, Op.binOp BinOp.neq 3 (Operand.tmp 166) (Operand.tmp 170) _, _, _, _, _⟩) (v := undef) rfl (Or.inr ⟨by rfl, rfl⟩) (by assumption) ?_
                      try simp only [Act.put, lay1, lay2, lay3]
                      refine tko (i := 16) (oi := ⟨some 172, Op.move (Operand.tmp 171), _, _, _, _⟩) (v := undef) rfl (Or.inr ⟨by rfl, rfl⟩) (by assumption) ?_
                      try simp only [Act.put, lay1, lay2, lay3]
                      refine tko (i := 17) (oi := ⟨some 173, Op.fieldAddr 47 (Operand.tmp 15) 1, _, _, _, _⟩) (v := undef) rfl (Or.inr ⟨by rfl, rfl⟩) (by assumption) ?_
                      try simp only [Act.put, lay1, lay2, lay3]
                      refine tko (i := 18) (oi := ⟨some 174, Op.load 45 (Operand.tmp 173), _, _, _, _⟩) (v := undef) rfl (Or.inr ⟨by rfl, rfl⟩) (by assumption) ?_
                      try simp only [Act.put, lay1, lay2, lay3]
                      refine tko (i := 19) (oi := ⟨some 175, Op.call { callee := Callee.value (Operand.func 27), args := #[(Operand.tmp 174)], argTypes := #[45] }, _, _, _, _⟩) (v := undef) rfl (Or.inr ⟨by rfl, rfl⟩) (by assumption) ?_
                      try simp only [Act.put, lay1, lay2, lay3]
                      refine tko (i := 20) (oi := ⟨some 176, Op.binOp BinOp.neq 3 (Operand.tmp 175) (Operand.const (Value.int IntKind.i64 0)) _, _, _, _, _⟩) (v := undef) rfl (Or.inr ⟨by rfl, rfl⟩) (by assumption) ?_
                      try simp only [Act.put, lay1, lay2, lay3]
                      refine tko (i := 21) (oi := ⟨some 177, Op.pick (Operand.tmp 172) (Operand.const (Value.bool true)) (Operand.tmp 176), _, _, _, _⟩) (v := undef) rfl (Or.inr ⟨by rfl, rfl⟩) (by assumption) ?_
                      try simp only [Act.put, lay1, lay2, lay3]
                      refine tko (i := 22) (oi := ⟨some 178, Op.pick (Operand.tmp 164) (Operand.tmp 177) (Operand.const (Value.bool false)), _, _, _, _⟩) (v := ?v308) rfl (Or.inl ⟨by rfl, ?hy308⟩) (by assumption) ?_
                      case hy308 => ((intro w0 hSw; go_simp); try (with_reducible rfl))
                      try simp only [Act.put, lay1, lay2, lay3]
                      refine wpAnyH_done (by kernel_rfl) ?_ _
                      go_wp2_with fail
                      go_roundw
                      case rel => exact ⟨j + 1, F2, by omega, by go_num, by rw [take_snoc HN.out, stOf_snoc, ← HH1.out, ← HO1.out]; exact HO9.out.grown (grown_trans HGQ.out hHeld)⟩
                      case measure => simp [intOf]; omega
                  · have hs : (x0.s != 1) = true := by simpa using hs1
                    have he := HGO.out hs1
                    have hq1 : no = x0.t := by rw [← HNO.out, he]
                    have hq2 : nz = 0 := by rw [← HNZ.out, he]; rfl
                    rw [hq1, hq2] at HK
                    clear hs1 HGO he hq1 hq2
                    as_aux_lemma =>
                      refine wp_region_held_drew (S := fun w' => wy.grownBy w' none) (by kernel_rfl) (tt.grown_drew (grown_refl _ _)) (fun hHeld => ?_)
                      generalize wy.drew = wd2 at hHeld ⊢
                      refine tko (i := 0) (oi := ⟨some 135, Op.move (Operand.tmp 19), _, _, _, _⟩) (v := ?v309) rfl (Or.inl ⟨by rfl, ?hy309⟩) (by assumption) ?_
                      case hy309 => ((intro w0 hSw; go_simp); try (with_reducible rfl))
                      try simp only [Act.put, lay1, lay2, lay3]
                      refine tko (i := 1) (oi := ⟨some 136, Op.move (Operand.tmp 135), _, _, _, _⟩) (v := ?v310) rfl (Or.inl ⟨by rfl, ?hy310⟩) (by assumption) ?_
                      case hy310 => ((intro w0 hSw; go_simp); try (with_reducible rfl))
                      try simp only [Act.put, lay1, lay2, lay3]
                      refine tko (i := 2) (oi := ⟨some 137, Op.fieldAddr 31 (Operand.tmp 10) 0, _, _, _, _⟩) (v := ?v311) rfl (Or.inl ⟨by rfl, ?hy311⟩) (by assumption) ?_
                      case hy311 => ((intro w0 hSw; go_simp); try (with_reducible rfl))
                      try simp only [Act.put, lay1, lay2, lay3]
                      refine tko (i := 3) (oi := ⟨some 138, Op.load 5 (Operand.tmp 137), _, _, _, _⟩) (v := ?v312) rfl (Or.inl ⟨by rfl, ?hy312⟩) (by assumption) ?_
                      case hy312 => ((intro w0 hSw; obtain ⟨hs1, hs2, hs3, hs4, hs5, hs6⟩ := HK.out w0 hSw; go_simp); try (with_reducible rfl))
                      try simp only [Act.put, lay1, lay2, lay3]
                      refine rdo (i := 4) (o := ⟨some 139, Op.call { callee := Callee.value (Operand.func 23), args := #[(Operand.tmp 138)], argTypes := #[5] }, _, _, _, _⟩) rfl (fun K hK => ?_)
                      go_simp
                      (with_reducible refine (HNT.out _).mono ?_); rintro e wn ⟨rfl, rfl⟩
                      refine hK.out _ _ hHeld (fun hHeld => ?_)
                      clear hK K
                      try simp only [Act.put, lay1, lay2, lay3]
                      refine tko (i := 5) (oi := ⟨some 140, Op.binOp BinOp.eql 3 (Operand.tmp 139) (Operand.const (Value.int IntKind.i64 0)) _, _, _, _, _⟩) (v := ?v313) rfl (Or.inl ⟨by rfl, ?hy313⟩) (by assumption) ?_
                      case hy313 => ((intro w0 hSw; go_simp); try (with_reducible rfl))
                      try simp only [Act.put, lay1, lay2, lay3]
                      refine tko (i := 6) (oi := ⟨some 141, Op.pick (Operand.tmp 136) (Operand.tmp 140) (Operand.const (Value.bool false)), _, _, _, _⟩) (v := ?v314) rfl (Or.inl ⟨by rfl, ?hy314⟩) (by assumption) ?_
                      case hy314 => ((intro w0 hSw; go_simp); try (with_reducible rfl))
                      try simp only [Act.put, lay1, lay2, lay3]
                      refine tko (i := 7) (oi := ⟨some 142, Op.move (Operand.tmp 141), _, _, _, _⟩) (v := ?v315) rfl (Or.inl ⟨by rfl, ?hy315⟩) (by assumption) ?_
                      case hy315 => ((intro w0 hSw; go_simp); try (with_reducible rfl))
                      try simp only [Act.put, lay1, lay2, lay3]
                      refine tko (i := 8) (oi := ⟨some 143, Op.fieldAddr 47 (Operand.tmp 11) 0, _, _, _, _⟩) (v := undef) rfl (Or.inr ⟨by rfl, rfl⟩) (by assumption) ?_
                      try simp only [Act.put, lay1, lay2, lay3]
                      refine tko (i := 9) (oi := ⟨some 144, Op.load 3 (Operand.tmp 143), _, _, _, _⟩) (v := undef) rfl (Or.inr ⟨by rfl, rfl⟩) (by assumption) ?_
                      try simp only [Act.put, lay1, lay2, lay3]
                      refine tko (i := 10) (oi := ⟨some 145, Op.binOp BinOp.geq 3 (Operand.tmp 144) (Operand.const (Value.int IntKind.i64 0)) _, _, _, _, _⟩) (v := undef) rfl (Or.inr ⟨by rfl, rfl⟩) (by assumption) ?_
                      try simp only [Act.put, lay1, lay2, lay3]
                      refine tko (i := 11) (oi := ⟨some 146, Op.pick (Operand.tmp 142) (Operand.tmp 145) (Operand.const (Value.bool false)), _, _, _, _⟩) (v := ?v319) rfl (Or.inl ⟨by rfl, ?hy319⟩) (by assumption) ?_
                      case hy319 => ((intro w0 hSw; go_simp); try (with_reducible rfl))
                      try simp only [Act.put, lay1, lay2, lay3]
                      refine tko (i := 12) (oi := ⟨some 147, Op.move (Operand.tmp 146), _, _, _, _⟩) (v := ?v320) rfl (Or.inl ⟨by rfl, ?hy320⟩) (by assumption) ?_
                      case hy320 => ((intro w0 hSw; go_simp); try (with_reducible rfl))
                      try simp only [Act.put, lay1, lay2, lay3]
                      refine tko (i := 13) (oi := ⟨some 148, Op.fieldAddr 47 (Operand.tmp 11) 0, _, _, _, _⟩) (v := undef) rfl (Or.inr ⟨by rfl, rfl⟩) (by assumption) ?_
                      try simp only [Act.put, lay1, lay2, lay3]
                      refine tko (i := 14) (oi := ⟨some 149, Op.load 3 (Operand.tmp 148), _, _, _, _⟩) (v := undef) rfl (Or.inr ⟨by rfl, rfl⟩) (by assumption) ?_
                      try simp only [Act.put, lay1, lay2, lay3]
                      refine tko (i := 15) (oi := ⟨some 150, Op.move (Operand.tmp 13), _, _, _, _⟩) (v := undef) rfl (Or.inr ⟨by rfl, rfl⟩) (by assumption) ?_
                      try simp only [Act.put, lay1, lay2, lay3]
                      refine tko (i := 16) (oi := ⟨some 151, Op.indexAddr 42 (Operand.tmp 150) (Operand.const (Value.int IntKind.i64 0)), _, _, _, _⟩) (v := undef) rfl (Or.inr ⟨by rfl, rfl⟩) (by assumption) ?_
                      try simp only [Act.put, lay1, lay2, lay3]
                      refine tko (i := 17) (oi := ⟨some 152, Op.fieldAddr 31 (Operand.tmp 151) 2, _, _, _, _⟩) (v := undef) rfl (Or.inr ⟨by rfl, rfl⟩) (by assumption) ?_
                      try simp only [Act.put, lay1, lay2, lay3]
                      refine tko (i := 18) (oi := ⟨some 153, Op.load 3 (Operand.tmp 152), _, _, _, _⟩) (v := undef) rfl (Or.inr ⟨by rfl, rfl⟩) (by assumption) ?_
                      try simp only [Act.put, lay1, lay2, lay3]
                      refine tko (i := 19) (oi := ⟨some 154, Op.binOp BinOp.neq 3 (Operand.tmp 149) (Operand.tmp 153) _, _, _, _, _⟩) (v := undef) rfl (Or.inr ⟨by rfl, rfl⟩) (by assumption) ?_
                      try simp only [Act.put, lay1, lay2, lay3]
                      refine tko (i := 20) (oi := ⟨some 155, Op.pick (Operand.tmp 147) (Operand.tmp 154) (Operand.const (Value.bool false)), _, _, _, _⟩) (v := ?v328) rfl (Or.inl ⟨by rfl, ?hy328⟩) (by assumption) ?_
                      case hy328 => ((intro w0 hSw; go_simp); try (with_reducible rfl))
                      try simp only [Act.put, lay1, lay2, lay3]
                      refine wpAnyH_done (by kernel_rfl) ?_ _
                      go_wp2_with fail
                      have HGD := Lib.hid hHeld
                      clear hHeld
                      refine wp_region_held_drew (S := fun w' => wy.grownBy w' none) (by kernel_rfl) (tt.grown_drew HGD.out) (fun hHeld => ?_)
                      generalize World.drew _ = wd3 at hHeld ⊢
                      refine tko (i := 0) (oi := ⟨some 156, Op.move (Operand.tmp 19), _, _, _, _⟩) (v := ?v329) rfl (Or.inl ⟨by rfl, ?hy329⟩) (by assumption) ?_
                      case hy329 => ((intro w0 hSw; go_simp); try (with_reducible rfl))
                      try simp only [Act.put, lay1, lay2, lay3]
                      refine tko (i := 1) (oi := ⟨some 157, Op.move (Operand.tmp 156), _, _, _, _⟩) (v := ?v330) rfl (Or.inl ⟨by rfl, ?hy330⟩) (by assumption) ?_
                      case hy330 => ((intro w0 hSw; go_simp); try (with_reducible rfl))
                      try simp only [Act.put, lay1, lay2, lay3]
                      refine tko (i := 2) (oi := ⟨some 158, Op.move (Operand.tmp 13), _, _, _, _⟩) (v := ?v331) rfl (Or.inl ⟨by rfl, ?hy331⟩) (by assumption) ?_
                      case hy331 => ((intro w0 hSw; go_simp); try (with_reducible rfl))
                      try simp only [Act.put, lay1, lay2, lay3]
                      refine tko (i := 3) (oi := ⟨some 159, Op.indexAddr 42 (Operand.tmp 158) (Operand.const (Value.int IntKind.i64 0)), _, _, _, _⟩) (v := ?v332) rfl (Or.inl ⟨by rfl, ?hy332⟩) (by assumption) ?_
                      case hy332 => ((intro w0 hSw; go_simp); try (with_reducible rfl))
                      try simp only [Act.put, lay1, lay2, lay3]
                      refine tko (i := 4) (oi := ⟨some 160, Op.fieldAddr 31 (Operand.tmp 159) 5, _, _, _, _⟩) (v := ?v333) rfl (Or.inl ⟨by rfl, ?hy333⟩) (by assumption) ?_
                      case hy333 => ((intro w0 hSw; go_simp); try (with_reducible rfl))
                      try simp only [Act.put, lay1, lay2, lay3]
                      refine tko (i := 5) (oi := ⟨some 161, Op.load 26 (Operand.tmp 160), _, _, _, _⟩) (v := ?v334) rfl (Or.inl ⟨by rfl, ?hy334⟩) (by assumption) ?_
                      case hy334 => ((intro w0 hSw; obtain ⟨hs1, hs2, hs3, hs4, hs5, hs6⟩ := HK.out w0 hSw; go_simp); try (with_reducible rfl))
                      try simp only [Act.put, lay1, lay2, lay3]
                      refine tko (i := 6) (oi := ⟨some 162, Op.binOp BinOp.neq 26 (Operand.tmp 161) (Operand.const (Value.int IntKind.u8 1)) _, _, _, _, _⟩) (v := ?v335) rfl (Or.inl ⟨by rfl, ?hy335⟩) (by assumption) ?_
                      case hy335 => ((intro w0 hSw; go_simp); try (with_reducible rfl))
                      try simp only [Act.put, lay1, lay2, lay3]
                      refine tko (i := 7) (oi := ⟨some 163, Op.pick (Operand.tmp 157) (Operand.tmp 162) (Operand.const (Value.bool false)), _, _, _, _⟩) (v := ?v336) rfl (Or.inl ⟨by rfl, ?hy336⟩) (by assumption) ?_
                      case hy336 => ((intro w0 hSw; go_simp); try (with_reducible rfl))
                      try simp only [Act.put, lay1, lay2, lay3]
                      refine tko (i := 8) (oi := ⟨some 164, Op.move (Operand.tmp 163), _, _, _, _⟩) (v := ?v337) rfl (Or.inl ⟨by rfl, ?hy337⟩) (by assumption) ?_
                      case hy337 => ((intro w0 hSw; go_simp); try (with_reducible rfl))
                      try simp only [Act.put, lay1, lay2, lay3]
                      refine tko (i := 9) (oi := ⟨some 165, Op.fieldAddr 47 (Operand.tmp 15) 0, _, _, _, _⟩) (v := ?v338) rfl (Or.inl ⟨by rfl, ?hy338⟩) (by assumption) ?_
                      case hy338 => ((intro w0 hSw; go_simp); try (with_reducible rfl))
                      try simp only [Act.put, lay1, lay2, lay3]
                      refine tko (i := 10) (oi := ⟨some 166, Op.load 3 (Operand.tmp 165), _, _, _, _⟩) (v := ?v339) rfl (Or.inl ⟨by rfl, ?hy339⟩) (by assumption) ?_
                      case hy339 => ((intro w0 hSw; obtain ⟨hs1, hs2, hs3, hs4, hs5, hs6⟩ := HK.out w0 hSw; go_simp); try (with_reducible rfl))
                      try simp only [Act.put, lay1, lay2, lay3]
                      refine tko (i := 11) (oi := ⟨some 167, Op.move (Operand.tmp 13), _, _, _, _⟩) (v := ?v340) rfl (Or.inl ⟨by rfl, ?hy340⟩) (by assumption) ?_
                      case hy340 => ((intro w0 hSw; go_simp); try (with_reducible rfl))
                      try simp only [Act.put, lay1, lay2, lay3]
                      refine tko (i := 12) (oi := ⟨some 168, Op.indexAddr 42 (Operand.tmp 167) (Operand.const (Value.int IntKind.i64 0)), _, _, _, _⟩) (v := ?v341) rfl (Or.inl ⟨by rfl, ?hy341⟩) (by assumption) ?_
                      case hy341 => ((intro w0 hSw; go_simp); try (with_reducible rfl))
                      try simp only [Act.put, lay1, lay2, lay3]
                      refine tko (i := 13) (oi := ⟨some 169, Op.fieldAddr 31 (Operand.tmp 168) 2, _, _, _, _⟩) (v := ?v342) rfl (Or.inl ⟨by rfl, ?hy342⟩) (by assumption) ?_
                      case hy342 => ((intro w0 hSw; go_simp); try (with_reducible rfl))
                      try simp only [Act.put, lay1, lay2, lay3]
                      refine tko (i := 14) (oi := ⟨some 170, Op.load 3 (Operand.tmp 169), _, _, _, _⟩) (v := ?v343) rfl (Or.inl ⟨by rfl, ?hy343⟩) (by assumption) ?_
                      case hy343 => ((intro w0 hSw; obtain ⟨hs1, hs2, hs3, hs4, hs5, hs6⟩ := HK.out w0 hSw; go_simp); try (with_reducible rfl))
                      try simp only [Act.put, lay1, lay2, lay3]
                      refine tko (i := 15) (oi := ⟨some 171, Op.binOp BinOp.neq 3 (Operand.tmp 166) (Operand.tmp 170) _, _, _, _, _⟩) (v := ?v344) rfl (Or.inl ⟨by rfl, ?hy344⟩) (by assumption) ?_
                      case hy344 => ((intro w0 hSw; go_simp); try (with_reducible rfl))
                      try simp only [Act.put, lay1, lay2, lay3]
                      refine tko (i := 16) (oi := ⟨some 172, Op.move (Operand.tmp 171), _, _, _, _⟩) (v := ?v345) rfl (Or.inl ⟨by rfl, ?hy345⟩) (by assumption) ?_
                      case hy345 => ((intro w0 hSw; go_simp); try (with_reducible rfl))
                      try simp only [Act.put, lay1, lay2, lay3]
                      refine tko (i := 17) (oi := ⟨some 173, Op.fieldAddr 47 (Operand.tmp 15) 1, _, _, _, _⟩) (v := ?v346) rfl (Or.inl ⟨by rfl, ?hy346⟩) (by assumption) ?_
                      case hy346 => ((intro w0 hSw; go_simp); try (with_reducible rfl))
                      try simp only [Act.put, lay1, lay2, lay3]
                      refine tko (i := 18) (oi := ⟨some 174, Op.load 45 (Operand.tmp 173), _, _, _, _⟩) (v := ?v347) rfl (Or.inl ⟨by rfl, ?hy347⟩) (by assumption) ?_
                      case hy347 => ((intro w0 hSw; obtain ⟨hs1, hs2, hs3, hs4, hs5, hs6⟩ := HK.out w0 hSw; go_simp); try (with_reducible rfl))
                      try simp only [Act.put, lay1, lay2, lay3]
                      refine rdo (i := 19) (o := ⟨some 175, Op.call { callee := Callee.value (Operand.func 27), args := #[(Operand.tmp 174)], argTypes := #[45] }, _, _, _, _⟩) rfl (fun K hK => ?_)
                      go_simp
                      (with_reducible refine (HC0.out _).mono ?_); rintro e wc ⟨rfl, nc, hwc⟩; have hgc : wy.grownBy wc none := (by rw [hwc]; exact tt.grown_drewN hHeld nc); clear hwc
                      refine hK.out _ _ hgc (fun hHeld => ?_)
                      clear hK K
                      try simp only [Act.put, lay1, lay2, lay3]
                      refine tko (i := 20) (oi := ⟨some 176, Op.binOp BinOp.neq 3 (Operand.tmp 175) (Operand.const (Value.int IntKind.i64 0)) _, _, _, _, _⟩) (v := ?v348) rfl (Or.inl ⟨by rfl, ?hy348⟩) (by assumption) ?_
                      case hy348 => ((intro w0 hSw; go_simp); try (with_reducible rfl))
                      try simp only [Act.put, lay1, lay2, lay3]
                      refine tko (i := 21) (oi := ⟨some 177, Op.pick (Operand.tmp 172) (Operand.const (Value.bool true)) (Operand.tmp 176), _, _, _, _⟩) (v := ?v349) rfl (Or.inl ⟨by rfl, ?hy349⟩) (by assumption) ?_
                      case hy349 => ((intro w0 hSw; go_simp); try (with_reducible rfl))
                      try simp only [Act.put, lay1, lay2, lay3]
                      refine tko (i := 22) (oi := ⟨some 178, Op.pick (Operand.tmp 164) (Operand.tmp 177) (Operand.const (Value.bool false)), _, _, _, _⟩) (v := ?v350) rfl (Or.inl ⟨by rfl, ?hy350⟩) (by assumption) ?_
                      case hy350 => ((intro w0 hSw; go_simp); try (with_reducible rfl))
                      try simp only [Act.put, lay1, lay2, lay3]
                      refine wpAnyH_done (by kernel_rfl) ?_ _
                      go_wp2_with fail
                      go_roundw
                      case rel => exact ⟨j + 1, F2, by omega, by go_num, by rw [take_snoc HN.out, stOf_snoc, ← HH1.out, ← HO1.out]; exact HO9.out.grown (grown_trans HGQ.out hHeld)⟩
                      case measure => simp [intOf]; omega
              · have hk6 : (x0.k == 6) = false := by simpa using h6
                clear h6 HX0 x0t x0s
                go_wp2_with fail
                as_aux_lemma =>
                  refine wp_region_held_drew (S := fun w' => wy.grownBy w' none) (by kernel_rfl) (tt.grown_drew (grown_refl _ _)) (fun hHeld => ?_)
                  generalize wy.drew = wd2 at hHeld ⊢
                  refine tko (i := 0) (oi := ⟨some 135, Op.move (Operand.tmp 19), _, _, _, _⟩) (v := ?v52) rfl (Or.inl ⟨by rfl, ?hy52⟩) (by assumption) ?_
                  case hy52 => ((intro w0 hSw; go_simp); try (with_reducible rfl))
                  try simp only [Act.put, lay1, lay2, lay3]
                  refine tko (i := 1) (oi := ⟨some 136, Op.move (Operand.tmp 135), _, _, _, _⟩) (v := ?v53) rfl (Or.inl ⟨by rfl, ?hy53⟩) (by assumption) ?_
                  case hy53 => ((intro w0 hSw; go_simp); try (with_reducible rfl))
                  try simp only [Act.put, lay1, lay2, lay3]
                  refine tko (i := 2) (oi := ⟨some 137, Op.fieldAddr 31 (Operand.tmp 10) 0, _, _, _, _⟩) (v := undef) rfl (Or.inr ⟨by rfl, rfl⟩) (by assumption) ?_
                  try simp only [Act.put, lay1, lay2, lay3]
                  refine tko (i := 3) (oi := ⟨some 138, Op.load 5 (Operand.tmp 137), _, _, _, _⟩) (v := undef) rfl (Or.inr ⟨by rfl, rfl⟩) (by assumption) ?_
                  try simp only [Act.put, lay1, lay2, lay3]
                  refine tko (i := 4) (oi := ⟨some 139, Op.call { callee := Callee.value (Operand.func 23), args := #[(Operand.tmp 138)], argTypes := #[5] }, _, _, _, _⟩) (v := undef) rfl (Or.inr ⟨by rfl, rfl⟩) (by assumption) ?_
                  try simp only [Act.put, lay1, lay2, lay3]
                  refine tko (i := 5) (oi := ⟨some 140, Op.binOp BinOp.eql 3 (Operand.tmp 139) (Operand.const (Value.int IntKind.i64 0)) _, _, _, _, _⟩) (v := undef) rfl (Or.inr ⟨by rfl, rfl⟩) (by assumption) ?_
                  try simp only [Act.put, lay1, lay2, lay3]
                  refine tko (i := 6) (oi := ⟨some 141, Op.pick (Operand.tmp 136) (Operand.tmp 140) (Operand.const (Value.bool false)), _, _, _, _⟩) (v := ?v58) rfl (Or.inl ⟨by rfl, ?hy58⟩) (by assumption) ?_
                  case hy58 => ((intro w0 hSw; go_simp); try (with_reducible rfl))
                  try simp only [Act.put, lay1, lay2, lay3]
                  refine tko (i := 7) (oi := ⟨some 142, Op.move (Operand.tmp 141), _, _, _, _⟩) (v := ?v59) rfl (Or.inl ⟨by rfl, ?hy59⟩) (by assumption) ?_
                  case hy59 => ((intro w0 hSw; go_simp); try (with_reducible rfl))
                  try simp only [Act.put, lay1, lay2, lay3]
                  refine tko (i := 8) (oi := ⟨some 143, Op.fieldAddr 47 (Operand.tmp 11) 0, _, _, _, _⟩) (v := undef) rfl (Or.inr ⟨by rfl, rfl⟩) (by assumption) ?_
                  try simp only [Act.put, lay1, lay2, lay3]
                  refine tko (i := 9) (oi := ⟨some 144, Op.load 3 (Operand.tmp 143), _, _, _, _⟩) (v := undef) rfl (Or.inr ⟨by rfl, rfl⟩) (by assumption) ?_
                  try simp only [Act.put, lay1, lay2, lay3]
                  refine tko (i := 10) (oi := ⟨some 145, Op.binOp BinOp.geq 3 (Operand.tmp 144) (Operand.const (Value.int IntKind.i64 0)) _, _, _, _, _⟩) (v := undef) rfl (Or.inr ⟨by rfl, rfl⟩) (by assumption) ?_
                  try simp only [Act.put, lay1, lay2, lay3]
                  refine tko (i := 11) (oi := ⟨some 146, Op.pick (Operand.tmp 142) (Operand.tmp 145) (Operand.const (Value.bool false)), _, _, _, _⟩) (v := ?v63) rfl (Or.inl ⟨by rfl, ?hy63⟩) (by assumption) ?_
                  case hy63 => ((intro w0 hSw; go_simp); try (with_reducible rfl))
                  try simp only [Act.put, lay1, lay2, lay3]
                  refine tko (i := 12) (oi := ⟨some 147, Op.move (Operand.tmp 146), _, _, _, _⟩) (v := ?v64) rfl (Or.inl ⟨by rfl, ?hy64⟩) (by assumption) ?_
                  case hy64 => ((intro w0 hSw; go_simp); try (with_reducible rfl))
                  try simp only [Act.put, lay1, lay2, lay3]
                  refine tko (i := 13) (oi := ⟨some 148, Op.fieldAddr 47 (Operand.tmp 11) 0, _, _, _, _⟩) (v := undef) rfl (Or.inr ⟨by rfl, rfl⟩) (by assumption) ?_
                  try simp only [Act.put, lay1, lay2, lay3]
                  refine tko (i := 14) (oi := ⟨some 149, Op.load 3 (Operand.tmp 148), _, _, _, _⟩) (v := undef) rfl (Or.inr ⟨by rfl, rfl⟩) (by assumption) ?_
                  try simp only [Act.put, lay1, lay2, lay3]
                  refine tko (i := 15) (oi := ⟨some 150, Op.move (Operand.tmp 13), _, _, _, _⟩) (v := undef) rfl (Or.inr ⟨by rfl, rfl⟩) (by assumption) ?_
                  try simp only [Act.put, lay1, lay2, lay3]
                  refine tko (i := 16) (oi := ⟨some 151, Op.indexAddr 42 (Operand.tmp 150) (Operand.const (Value.int IntKind.i64 0)), _, _, _, _⟩) (v := undef) rfl (Or.inr ⟨by rfl, rfl⟩) (by assumption) ?_
                  try simp only [Act.put, lay1, lay2, lay3]
                  refine tko (i := 17) (oi := ⟨some 152, Op.fieldAddr 31 (Operand.tmp 151) 2, _, _, _, _⟩) (v := undef) rfl (Or.inr ⟨by rfl, rfl⟩) (by assumption) ?_
                  try simp only [Act.put, lay1, lay2, lay3]
                  refine tko (i := 18) (oi := ⟨some 153, Op.load 3 (Operand.tmp 152), _, _, _, _⟩) (v := undef) rfl (Or.inr ⟨by rfl, rfl⟩) (by assumption) ?_
                  try simp only [Act.put, lay1, lay2, lay3]
                  refine tko (i := 19) (oi := ⟨some 154, Op.binOp BinOp.neq 3 (Operand.tmp 149) (Operand.tmp 153) _, _, _, _, _⟩) (v := undef) rfl (Or.inr ⟨by rfl, rfl⟩) (by assumption) ?_
                  try simp only [Act.put, lay1, lay2, lay3]
                  refine tko (i := 20) (oi := ⟨some 155, Op.pick (Operand.tmp 147) (Operand.tmp 154) (Operand.const (Value.bool false)), _, _, _, _⟩) (v := ?v72) rfl (Or.inl ⟨by rfl, ?hy72⟩) (by assumption) ?_
                  case hy72 => ((intro w0 hSw; go_simp); try (with_reducible rfl))
                  try simp only [Act.put, lay1, lay2, lay3]
                  refine wpAnyH_done (by kernel_rfl) ?_ _
                  go_wp2_with fail
                  have HGD := Lib.hid hHeld
                  clear hHeld
                  refine wp_region_held_drew (S := fun w' => wy.grownBy w' none) (by kernel_rfl) (tt.grown_drew HGD.out) (fun hHeld => ?_)
                  generalize World.drew _ = wd3 at hHeld ⊢
                  refine tko (i := 0) (oi := ⟨some 156, Op.move (Operand.tmp 19), _, _, _, _⟩) (v := ?v73) rfl (Or.inl ⟨by rfl, ?hy73⟩) (by assumption) ?_
                  case hy73 => ((intro w0 hSw; go_simp); try (with_reducible rfl))
                  try simp only [Act.put, lay1, lay2, lay3]
                  refine tko (i := 1) (oi := ⟨some 157, Op.move (Operand.tmp 156), _, _, _, _⟩) (v := ?v74) rfl (Or.inl ⟨by rfl, ?hy74⟩) (by assumption) ?_
                  case hy74 => ((intro w0 hSw; go_simp); try (with_reducible rfl))
                  try simp only [Act.put, lay1, lay2, lay3]
                  refine tko (i := 2) (oi := ⟨some 158, Op.move (Operand.tmp 13), _, _, _, _⟩) (v := undef) rfl (Or.inr ⟨by rfl, rfl⟩) (by assumption) ?_
                  try simp only [Act.put, lay1, lay2, lay3]
                  refine tko (i := 3) (oi := ⟨some 159, Op.indexAddr 42 (Operand.tmp 158) (Operand.const (Value.int IntKind.i64 0)), _, _, _, _⟩) (v := undef) rfl (Or.inr ⟨by rfl, rfl⟩) (by assumption) ?_
                  try simp only [Act.put, lay1, lay2, lay3]
                  refine tko (i := 4) (oi := ⟨some 160, Op.fieldAddr 31 (Operand.tmp 159) 5, _, _, _, _⟩) (v := undef) rfl (Or.inr ⟨by rfl, rfl⟩) (by assumption) ?_
                  try simp only [Act.put, lay1, lay2, lay3]
                  refine tko (i := 5) (oi := ⟨some 161, Op.load 26 (Operand.tmp 160), _, _, _, _⟩) (v := undef) rfl (Or.inr ⟨by rfl, rfl⟩) (by assumption) ?_
                  try simp only [Act.put, lay1, lay2, lay3]
                  refine tko (i := 6) (oi := ⟨some 162, Op.binOp BinOp.neq 26 (Operand.tmp 161) (Operand.const (Value.int IntKind.u8 1)) _, _, _, _, _⟩) (v := undef) rfl (Or.inr ⟨by rfl, rfl⟩) (by assumption) ?_
                  try simp only [Act.put, lay1, lay2, lay3]
                  refine tko (i := 7) (oi := ⟨some 163, Op.pick (Operand.tmp 157) (Operand.tmp 162) (Operand.const (Value.bool false)), _, _, _, _⟩) (v := ?v80) rfl (Or.inl ⟨by rfl, ?hy80⟩) (by assumption) ?_
                  case hy80 => ((intro w0 hSw; go_simp); try (with_reducible rfl))
                  try simp only [Act.put, lay1, lay2, lay3]
                  refine tko (i := 8) (oi := ⟨some 164, Op.move (Operand.tmp 163), _, _, _, _⟩) (v := ?v81) rfl (Or.inl ⟨by rfl, ?hy81⟩) (by assumption) ?_
                  case hy81 => ((intro w0 hSw; go_simp); try (with_reducible rfl))
                  try simp only [Act.put, lay1, lay2, lay3]
                  refine tko (i := 9) (oi := ⟨some 165, Op.fieldAddr 47 (Operand.tmp 15) 0, _, _, _, _⟩) (v := undef) rfl (Or.inr ⟨by rfl, rfl⟩) (by assumption) ?_
                  try simp only [Act.put, lay1, lay2, lay3]
                  refine tko (i := 10) (oi := ⟨some 166, Op.load 3 (Operand.tmp 165), _, _, _, _⟩) (v := undef) rfl (Or.inr ⟨by rfl, rfl⟩) (by assumption) ?_
                  try simp only [Act.put, lay1, lay2, lay3]
                  refine tko (i := 11) (oi := ⟨some 167, Op.move (Operand.tmp 13), _, _, _, _⟩) (v := undef) rfl (Or.inr ⟨by rfl, rfl⟩) (by assumption) ?_
                  try simp only [Act.put, lay1, lay2, lay3]
                  refine tko (i := 12) (oi := ⟨some 168, Op.indexAddr 42 (Operand.tmp 167) (Operand.const (Value.int IntKind.i64 0)), _, _, _, _⟩) (v := undef) rfl (Or.inr ⟨by rfl, rfl⟩) (by assumption) ?_
                  try simp only [Act.put, lay1, lay2, lay3]
                  refine tko (i := 13) (oi := ⟨some 169, Op.fieldAddr 31 (Operand.tmp 168) 2, _, _, _, _⟩) (v := undef) rfl (Or.inr ⟨by rfl, rfl⟩) (by assumption) ?_
                  try simp only [Act.put, lay1, lay2, lay3]
                  refine tko (i := 14) (oi := ⟨some 170, Op.load 3 (Operand.tmp 169), _, _, _, _⟩) (v := undef) rfl (Or.inr ⟨by rfl, rfl⟩) (by assumption) ?_
                  try simp only [Act.put, lay1, lay2, lay3]
                  refine tko (i := 15) (oi := ⟨some 171, Op.binOp BinOp.neq 3 (Operand.tmp 166) (Operand.tmp 170) _, _, _, _, _⟩) (v := undef) rfl (Or.inr ⟨by rfl, rfl⟩) (by assumption) ?_
                  try simp only [Act.put, lay1, lay2, lay3]
                  refine tko (i := 16) (oi := ⟨some 172, Op.move (Operand.tmp 171), _, _, _, _⟩) (v := undef) rfl (Or.inr ⟨by rfl, rfl⟩) (by assumption) ?_
                  try simp only [Act.put, lay1, lay2, lay3]
                  refine tko (i := 17) (oi := ⟨some 173, Op.fieldAddr 47 (Operand.tmp 15) 1, _, _, _, _⟩) (v := undef) rfl (Or.inr ⟨by rfl, rfl⟩) (by assumption) ?_
                  try simp only [Act.put, lay1, lay2, lay3]
                  refine tko (i := 18) (oi := ⟨some 174, Op.load 45 (Operand.tmp 173), _, _, _, _⟩) (v := undef) rfl (Or.inr ⟨by rfl, rfl⟩) (by assumption) ?_
                  try simp only [Act.put, lay1, lay2, lay3]
                  refine tko (i := 19) (oi := ⟨some 175, Op.call { callee := Callee.value (Operand.func 27), args := #[(Operand.tmp 174)], argTypes := #[45] }, _, _, _, _⟩) (v := undef) rfl (Or.inr ⟨by rfl, rfl⟩) (by assumption) ?_
                  try simp only [Act.put, lay1, lay2, lay3]
                  refine tko (i := 20) (oi := ⟨some 176, Op.binOp BinOp.neq 3 (Operand.tmp 175) (Operand.const (Value.int IntKind.i64 0)) _, _, _, _, _⟩) (v := undef) rfl (Or.inr ⟨by rfl, rfl⟩) (by assumption) ?_
                  try simp only [Act.put, lay1, lay2, lay3]
                  refine tko (i := 21) (oi := ⟨some 177, Op.pick (Operand.tmp 172) (Operand.const (Value.bool true)) (Operand.tmp 176), _, _, _, _⟩) (v := undef) rfl (Or.inr ⟨by rfl, rfl⟩) (by assumption) ?_
                  try simp only [Act.put, lay1, lay2, lay3]
                  refine tko (i := 22) (oi := ⟨some 178, Op.pick (Operand.tmp 164) (Operand.tmp 177) (Operand.const (Value.bool false)), _, _, _, _⟩) (v := ?v95) rfl (Or.inl ⟨by rfl, ?hy95⟩) (by assumption) ?_
                  case hy95 => ((intro w0 hSw; go_simp); try (with_reducible rfl))
                  try simp only [Act.put, lay1, lay2, lay3]
                  refine wpAnyH_done (by kernel_rfl) ?_ _
                  go_wp2_with fail
                  go_roundw
                  case rel => exact ⟨j + 1, F2, by omega, by go_num, by rw [take_snoc HN.out, stOf_snoc, ← HH1.out, ← HO1.out]; exact HO9.out.grown (grown_trans HGQ.out hHeld)⟩
                  case measure => simp [intOf]; omega
      · obtain ⟨er, her⟩ : ∃ x, ready c H1 n = x := ⟨_, rfl⟩
        have HTE : Hid (take c H1 n = (H1, [], er)) := Lib.hid (by rw [← her]; exact take_err hr)
        have hner : (er != 0) = true := by rw [← her]; simpa using hr
        have hne := ne_same eo es
        clear hr her
        go_wp2_with (first
          | (go_at_call 17; ((with_reducible refine HE1.out.mono ?_); rintro e w5 ⟨rfl, hg5⟩; have HE5 := Lib.hid (row_up HEA.out hg5); have HO5 := Lib.hid (HOA.out.grown hg5); have HX5 := Lib.hid (row_up HXA.out hg5); clear hg5))
          | ((with_reducible refine en.store_en eo es _ _ _ _ BE ?_ ?_ HE5.out ?_ ?_); (rfl); (rfl); (rfl); obtain ⟨w6, hw6⟩ : ∃ x, w5.setRow BE #[.int .i64 eo, .int .u32 es] = x := ⟨_, rfl⟩; have HO6 := Lib.hid (hw6 ▸ HO5.out.setVar HE5.out HNE.out (by decide) (by decide) (by decide) HZN.out.2 #[.int .i64 eo, .int .u32 es]); have HE6 : Hid (w6.heap[BE]? = some (.cells #[.int .i64 eo, .int .u32 es] 47 (0, 0))) := Lib.hid (by rw [← hw6]; exact setRow_heap _ _ _ _ _ _ HE5.out); have HX6 : Hid (w6.heap[BN]? = some (.cells (na n) 31 (0, 0))) := Lib.hid (by rw [← hw6]; exact (setRow_other _ _ _ _ HBNE.out).trans HX5.out); have HTK := Lib.hid (own_take HT.out HO6.out n HWN.out); rw [hw6]; clear hw6; rw [HTE.out] at HTK; dsimp only at HTK)
          | ((with_reducible refine tt.load_nt n _ BN ?_ (tt.range_of HX6.out) ?_); (rfl))
          | (go_at_call 16; ((with_reducible refine HTK.out.mono ?_); rintro e w7 ⟨F2, v, rfl, ho, hS, hD, _⟩; have HO7 := Lib.hid ho; have HE7 := Lib.hid (hD.heap HE6.out HNE.out); have HX7 := Lib.hid (hD.heap HX6.out HNN.out); have HE2 := Lib.hid (entry_in HO7.out.at' BB (by rw [HO7.out.at'.inv.le]; exact HBL.out)); rw [HEO.out, HES.out] at HE2; obtain ⟨adv, capv, hv⟩ := hS.form; have hv' : v = .slice adv 0 capv := hv; clear hv; subst hv'; have HV7 := Lib.hid hS; clear ho hS hD))
          | (go_at_call 17; ((with_reducible refine HE2.out.mono ?_); rintro e w8 ⟨rfl, hg8⟩; have HO8 := Lib.hid (HO7.out.grown hg8); have HE8 := Lib.hid (row_up HE7.out hg8); have HX8 := Lib.hid (row_up HX7.out hg8); have HV8 := Lib.hid (HV7.out.grown hg8); clear hg8))
          | ((with_reducible refine en.store_enN eo es _ _ _ _ ?_ ?_ ?_ ?_); (rfl); (rfl); (rfl); obtain ⟨BW, hBW⟩ : ∃ B, w8.heap.size = B := ⟨_, rfl⟩; obtain ⟨w9, hw9⟩ : ∃ x, w8.alloc (.cells #[.int .i64 eo, .int .u32 es] 47) = x := ⟨_, rfl⟩; have hg9 : w8.grownBy w9 none := (by rw [← hw9]; exact grown_alloc (grown_refl _ _) _); have HW9 : Hid (w9.heap[BW]? = some (.cells #[.int .i64 eo, .int .u32 es] 47 (0, 0))) := Lib.hid (by rw [← hw9, ← hBW]; exact heap_alloc_new _ _); have HO9 := Lib.hid (HO8.out.grown hg9); have HE9 := Lib.hid (row_up HE8.out hg9); have HX9 := Lib.hid (row_up HX8.out hg9); have HV9 := Lib.hid (HV8.out.grown hg9); rw [hw9, hBW]; clear hw9 hBW hg9)
          | ((with_reducible refine en.load_en _ _ _ _ _ BW ?_ HW9.out ?_); (rfl))
          | ((with_reducible refine en.load_en _ _ _ _ _ BE ?_ HE9.out ?_); (rfl)))
        go_roundw
        case rel => exact ⟨j + 1, F2, by omega, by go_num, by rw [take_snoc HN.out, stOf_snoc, ← HH1.out, HTE.out]; exact HO9.out⟩
        case measure => simp [intOf]; omega
    · have HE : Hid (ns.take j = ns) := Lib.hid (List.take_of_length_le (by have := HL.out; omega))
      rw [HE.out] at HO
      clear hj hj300 HE
      go_wp2_with (go_at_call 11; ((with_reducible refine (HW.out _ (grown_trans HG0.out HO.out.old)).mono ?_); rintro e w7 ⟨rfl, hg7⟩; have G7 := Lib.hid (grown_trans (grown_trans HG0.out HO.out.old) hg7); clear hg7))
      go_ret
      exact ⟨rfl, G7.out⟩
theorem owned_true (c : Cfg) (ad : Option Addr) (len cap : Nat) (w : World) (T : Tabs w) (ns : List Nt) (hlen : len = ns.length) (hat : NotesAt w ad ns) (hw : ∀ n ∈ ns, Word n) : Calls Tryd.prog 5 #[.agg c.cells, .slice ad len cap] w fun e w' => e = .returned (.bool true) ∧ w.grownBy w' none := by
  by_cases h : 300 < len
  · exact owned_long c ad len cap w T h
  · by_cases hm : c.may
    · exact owned_some c ad len cap w T ns hlen hat hw (by omega) hm
    · exact owned_no c ad len cap w T (by omega) hm
end Go.Proofs.YtenhdijbcdkfbaaDoor.hh
