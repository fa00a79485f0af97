/-
  What goes out of a home arrives, and is answered: the law's sends. No condition but what each theorem names.
-/
import Derived.Test.YtenhdijbcdkfbaaDoorHlP
namespace Go.Proofs.YtenhdijbcdkfbaaDoor.hh
open Go Go.ChangeShapes Go.WideShapes Go.ChangeAt Go.RowKit
open Go.Proofs.YtenhdijbcdkfbaaDoor.tt (Nt Cfg fits net bare zd usd uses coreOf ok_ends MapAt mput mdel ik NPool NSl Turn flat na nt zn grown_alloc grown_refl grown_trans tyne lt_of)
open Go.Proofs.YtenhdijbcdkfbaaDoor.en (En gets back asked asks free ask_parts may_parts ea)
open Go.Proofs.YtenhdijbcdkfbaaDoor.mm (wi wo ones wo_lt)
set_option linter.unusedVariables false
set_option linter.unusedSimpArgs false

theorem snoc_sl {w : World} {v' : Value} {ns : List Nt} {n : Nt} (h : tt.Sl w 31 24 v' (ns.length + 1) (flat nt ns ++ nt n)) : NSl w v' (ns ++ [n]) := by
  show tt.Sl _ _ 24 v' (ns ++ [n]).length (flat nt (ns ++ [n]))
  rw [tt.flat_append, tt.flat_single, List.length_append]; exact h
/-- What comes of one note: it is written at the end. -/
theorem FlAt.put {w wa w2 : World} {z fb h : Nat} {F : Ft} {qd qc : Nat} {v v2 : Value} {way way2 : List Nt} {D C : Int → Int → Int} (L : FlAt w z fb h F qd qc v way D C) (hz : z ≤ w.heap.size) (hF : ∀ i, F.own i → i < w.heap.size) (ha : w.grownBy wa none) (hs : NSl w2 v2 way2) (hg : wa.grownBy w2 v.ownBlock) (hn : tt.Next wa w2 v v2) :
    (w2.cell? ⟨fb, 1, none⟩ = some v ∧ w2.frozen? ⟨fb, 1, none⟩ = false) ∧ FlAt (w2.setCell ⟨fb, 1, none⟩ v2) z fb h F qd qc v2 way2 D C ∧ Mv w (w2.setCell ⟨fb, 1, none⟩ v2) fb qd qc v v2 := by
  have hb := L.lt
  have hown : some fb ≠ v.ownBlock := fun e => by
    obtain ⟨cur, hc⟩ := L.sl.type _ e.symm
    exact tyne L.blk hc (by decide) rfl
  have nm : ∀ {q : Nat} {f : Int → Int → Int}, MapQ w q f → some q ≠ v.ownBlock := fun hM e => by
    obtain ⟨es, ck, h1, _⟩ := hM
    obtain ⟨cur, hc⟩ := L.sl.type _ e.symm
    rw [h1] at hc; cases hc
  have nf : ∀ {q : Nat} {f : Int → Int → Int}, MapQ w q f → q ≠ fb := fun hM e => by
    obtain ⟨es, ck, h1, _⟩ := hM
    subst e; rw [L.blk] at h1; cases h1
  have old : ∀ i, i < w.heap.size → some i ≠ v.ownBlock → w2.heap[i]? = w.heap[i]? := fun i hi hne => (hg.block i (Nat.lt_of_lt_of_le hi ha.size) hne).trans (ha.block i hi (by simp))
  have h2 : w2.heap[fb]? = some (.cells #[.pointer (some ⟨h, 0, none⟩), v, .map (some qd), .map (some qc)] 61 (0, 0)) := (old fb hb hown).trans L.blk
  have hne : some fb ≠ v2.ownBlock := hn.ne (Nat.lt_of_lt_of_le hb ha.size) hown
  have set' : ∀ i, i ≠ fb → (w2.setCell ⟨fb, 1, none⟩ v2).heap[i]? = w2.heap[i]? := fun i hi => Below.heap_setCell _ _ _ i hi
  have v2lo : ∀ (P : Nat → Prop), (∀ k, v.ownBlock = some k → P k) → (∀ k, w.heap.size ≤ k → P k) → ∀ k, v2.ownBlock = some k → P k := fun P h1 h3 k hk => by
    rcases hn with e | e
    · exact h1 k (e ▸ hk)
    · exact h3 k (Nat.le_trans ha.size (e k hk))
  refine ⟨⟨by simp [World.cell?, h2], by simp [World.frozen?, h2]⟩, ⟨?_, hs.of_block fun k hk => set' k (fun e => hne (by rw [hk, e])), L.due.same ((set' _ (nf L.due)).trans (old _ L.due.lt (nm L.due))), L.cam.same ((set' _ (nf L.cam)).trans (old _ L.cam.lt (nm L.cam))), ⟨L.no.1, v2lo _ L.no.2.1 (fun k hk e => by have := hF k e; omega), L.no.2.2⟩, L.ne, ⟨L.low.1, v2lo _ L.low.2.1 (fun k hk => by omega), L.low.2.2⟩⟩, ⟨hg.os.trans ha.os, hg.tape.trans ha.tape, hg.output.trans ha.output, Nat.le_trans ha.size (Nat.le_trans hg.size (by simp [World.setCell])), fun i hi h1 _ _ h4 => (set' i h1).trans (old i hi h4), ?_⟩⟩
  · obtain ⟨hlt, hk⟩ := Array.getElem?_eq_some_iff.1 h2
    show (w2.heap.modify fb _)[fb]? = _
    rw [Array.getElem?_eq_getElem (by rw [Array.size_modify]; exact hlt), Array.getElem_modify_self, hk]
    rfl
  · rcases hn with e | e
    · exact .inl e
    · exact .inr fun k hk => Nat.le_trans ha.size (e k hk)
section
variable {w w' w2 : World} {z fb h : Nat} {F : Ft} {qd qc : Nat} {v v' : Value} {way : List Nt} {D C D' C' : Int → Int → Int}
theorem FlAt.nf (L : FlAt w z fb h F qd qc v way D C) : qd ≠ fb ∧ qc ≠ fb ∧ some qd ≠ v.ownBlock ∧ some qc ≠ v.ownBlock := by
  have nm : ∀ {q : Nat} {f : Int → Int → Int}, MapQ w q f → q ≠ fb ∧ some q ≠ v.ownBlock := fun hM => by
    obtain ⟨es, ck, h1, _⟩ := hM
    refine ⟨fun e => (by subst e; rw [L.blk] at h1; cases h1), fun e => ?_⟩
    obtain ⟨cur, hc⟩ := L.sl.type _ e.symm
    rw [h1] at hc; cases hc
  exact ⟨(nm L.due).1, (nm L.cam).1, (nm L.due).2, (nm L.cam).2⟩
theorem FlAt.setC (L : FlAt w z fb h F qd qc v way D C) (hM : MapQ w' qc C') (hg : w.grownBy w' (some qc)) : FlAt w' z fb h F qd qc v way D C' ∧ Mv w w' fb qd qc v v := by
  have n := L.nf
  refine ⟨⟨(hg.block _ L.lt (fun e => n.2.1 (Option.some.inj e).symm)).trans L.blk, L.sl.of_block fun k hk => hg.block k (L.sl.lt k hk) (fun e => n.2.2.2 (by rw [← e, hk])), L.due.same (hg.block _ L.due.lt (fun e => L.ne (Option.some.inj e))), hM, L.no, L.ne, L.low⟩, ⟨hg.os, hg.tape, hg.output, hg.size, fun i hi _ _ h3 _ => hg.block i hi (fun e => h3 (Option.some.inj e)), .inl rfl⟩⟩
theorem FlAt.setD (L : FlAt w z fb h F qd qc v way D C) (hM : MapQ w' qd D') (hg : w.grownBy w' (some qd)) : FlAt w' z fb h F qd qc v way D' C ∧ Mv w w' fb qd qc v v := by
  have n := L.nf
  refine ⟨⟨(hg.block _ L.lt (fun e => n.1 (Option.some.inj e).symm)).trans L.blk, L.sl.of_block fun k hk => hg.block k (L.sl.lt k hk) (fun e => n.2.2.1 (by rw [← e, hk])), hM, L.cam.same (hg.block _ L.cam.lt (fun e => L.ne (Option.some.inj e).symm)), L.no, L.ne, L.low⟩, ⟨hg.os, hg.tape, hg.output, hg.size, fun i hi _ h2 _ _ => hg.block i hi (fun e => h2 (Option.some.inj e)), .inl rfl⟩⟩
/-- A slice that is not the floor's. -/
theorem Mv.sl (M : Mv w w' fb qd qc v v') (L : FlAt w z fb h F qd qc v way D C) {u : Value} {ns : List Nt} (S : NSl w u ns) (hu : ∀ g, u.ownBlock = some g → some g ≠ v.ownBlock) : NSl w' u ns ∧ ∀ g, u.ownBlock = some g → some g ≠ v'.ownBlock := by
  have ty : ∀ g, u.ownBlock = some g → g ≠ fb ∧ g ≠ qd ∧ g ≠ qc := fun g hg => by
    obtain ⟨cur, hc⟩ := S.type g hg
    refine ⟨tyne hc L.blk (by decide), fun e => ?_, fun e => ?_⟩
    · obtain ⟨es, ck, h1, _⟩ := L.due
      subst e; rw [h1] at hc; cases hc
    · obtain ⟨es, ck, h1, _⟩ := L.cam
      subst e; rw [h1] at hc; cases hc
  exact ⟨S.of_block fun g hg => M.block g (S.lt g hg) (ty g hg).1 (ty g hg).2.1 (ty g hg).2.2 (hu g hg), fun g hg => M.next.ne (S.lt g hg) (hu g hg)⟩
end
section
variable {w : World} {ops : Array Oper} {rest : List Oper} {a : Act} {Q : Exit → Act → World → Prop} {dst : Option Tmp} {ty' : TypeId} {pos : String} {after : Array Edge}
/-- A field of a note's variable. -/
theorem store_at (ty : TypeId) (p : Tmp) (k B : Nat) (u : Value) (x n : Nt) (hg : w.heap[B]? = some (.cells (na x) 31 (0, 0))) (hp : a.eval (.tmp p) = .pointer (some ⟨B, k, none⟩)) (hi : (Tryd.prog.info? ty).map (·.size) = some 1) (hu : u.oneCell' = true) (hk : k < 24) (hy : (nt x).take k ++ [u] ++ (nt x).drop (k + 1) = nt n)
    (h : wpList Tryd.prog ops Q rest (a.put dst undef) (w.setRow B (na n))) : wpList Tryd.prog ops Q (⟨dst, .store ty (.tmp p) (.const u), ty', pos, after, none⟩ :: rest) a w :=
  wpList_plain rfl fun K hK => by
    have hrun := run_fld B k ty u x n w hi hu hg hk hy
    unfold Oper.wp execOp
    have he : a.eval (.const u) = u := rfl
    simp only [hp, he, Sem.run_bind, hrun, Result.andThen_ok]
    exact hK _ _ h
end
theorem fire_at {w : World} {ops : Array Oper} {o : Oper} {a : Act} {K : Act → World → Prop} {Q : Exit → Act → World → Prop} {E : Prop} (hgd : o.guard = none) (ty : TypeId) (p : Tmp) (y : Operand) (ho : o.op = .store ty (.tmp p) y) (B kk : Nat) (u : Value) (x n : Nt)
    (hg : w.heap[B]? = some (.cells (na x) 31 (0, 0))) (hp : a.eval (.tmp p) = .pointer (some ⟨B, kk, none⟩)) (hv : a.eval y = u) (hf : (Tryd.prog.info? ty).map (·.size) = some 1) (hu : u.oneCell' = true) (hk : kk < 24) (hy : (nt x).take kk ++ [u] ++ (nt x).drop (kk + 1) = nt n)
    (k : K (a.put o.dst undef) (w.setRow B (na n))) : if Region.wanted o (yielded ops a.tmps) = true then Oper.wp Tryd.prog o a w K Q else E := by
  have hw : Region.wanted o (yielded ops a.tmps) = true := by simp [Region.wanted, hgd]
  rw [if_pos hw]
  have hrun := run_fld B kk ty u x n w hf hu hg hk hy
  unfold Oper.wp execOp
  simp only [ho, hp, hv, Sem.run_bind, hrun, Result.andThen_ok]
  exact k
theorem came_snoc (l : List Nt) (x : Nt) (a q : Int) : came (l ++ [x]) a q = came l a q + (if cameB a q x then 1 else 0) := by
  rw [came_append, came_cons, came_nil]; omega
theorem ways_snoc (rf : Bool) (l : List Nt) (x : Nt) : ways rf (l ++ [x]) = ways rf l ++ resp rf x := by
  rw [ways_append]
  show _ ++ (resp rf x ++ []) = _
  rw [List.append_nil]
theorem ways_len (rf : Bool) : ∀ l : List Nt, (ways rf l).length ≤ l.length
  | [] => Nat.le_refl _
  | x :: l => by
    have h1 : ways rf (x :: l) = resp rf x ++ ways rf l := rfl
    have h2 : (resp rf x).length ≤ 1 := by (unfold resp; (repeat' split) <;> simp)
    have := ways_len rf l
    rw [h1, List.length_append]; simp only [List.length_cons]; omega
theorem came_le (l : List Nt) (a q : Int) : 0 ≤ came l a q ∧ came l a q ≤ l.length := by
  unfold came
  have := List.countP_le_length (p := cameB a q) (l := l)
  omega
/-- A note's block and core, as a key. -/
def Key (x : Nt) : Prop := (0 ≤ x.b ∧ x.b ≤ 255) ∧ (0 ≤ x.t ∧ x.t ≤ 31)
set_option maxRecDepth 1000000 in
set_option maxHeartbeats 40000000 in
theorem sends_any {wz w : World} {fb h : Nat} {c : Cfg} {F : Ft} {H : Hm} {qd qc : Nat} {vw : Value} {way : List Nt} {D C : Int → Int → Int} (O : Own wz w h c F H) (L : FlAt w wz.heap.size fb h F qd qc vw way D C) (v : Value) (out : List Nt) (hS : NSl w v out) (hv : ∀ g, v.ownBlock = some g → some g ≠ vw.ownBlock) (rf : Bool)
    (hx : ∀ x ∈ out, Key x) (hC : ∀ a q, 0 ≤ C a q ∧ C a q ≤ 1000000000) (hw : way.length ≤ 1000000000) (hl : out.length ≤ 2641) :
    Calls Tryd.prog 24 #[.pointer (some ⟨fb, 0, none⟩), v, .bool rf] w fun e w' => (∃ u, e = .returned u) ∧ ∃ v', Own wz w' h c F H ∧ FlAt w' wz.heap.size fb h F qd qc v' (way ++ ways rf out) D (fun a q => C a q + came out a q) ∧ Mv w w' fb qd qc vw v' := by
  obtain ⟨ad, cap, hf⟩ := hS.form
  obtain ⟨lo, hlo⟩ : ∃ n, n = out.length := ⟨_, rfl⟩
  rw [← hlo] at hf hl
  subst hf
  have HLO := qh hlo
  have HO := qh O
  have HL := qh L
  have HS := qh hS
  have HV := qh hv
  have HK := qh hx
  have HC := qh hC
  have HWL := qh hw
  have HL26 := qh hl
  obtain ⟨i0, hi, hz0, hz1, hz2⟩ := info_parts tt.infoN
  clear O L hS hv hx hC hw hl hlo
  go_enter Tryd.func24, Tryd.ntmps24
  go_wp2_with fail
  go_loopw [11] (fun i wq => ∃ (k : Nat) (vk : Value), k ≤ lo ∧ i = .int .i64 (k : Int) ∧ Own wz wq h c F H ∧ FlAt wq wz.heap.size fb h F qd qc vk (way ++ ways rf (out.take k)) D (fun a q => C a q + came (out.take k) a q) ∧ NSl wq (.slice ad lo cap) out ∧ (∀ g, Value.ownBlock (.slice ad lo cap) = some g → some g ≠ vk.ownBlock) ∧ Mv w wq fb qd qc vw vk) (fun i _ => lo - (intOf i).toNat)
  case atStart => exact ⟨0, vw, Nat.zero_le _, rfl, HO.out, by simpa [ways_nil, came_nil] using HL.out, HS.out, HV.out, Mv.refl _ _ _ _ _⟩
  case round =>
    clear HO HL HS HV
    obtain ⟨k, vk, hk, rfl, ho, hlf, hs, hv, hmv⟩ := hrel
    have HO := qh ho
    have HL := qh hlf
    have HS := qh hs
    have HV := qh hv
    have HMV := qh hmv
    have hl26 := HL26.out
    clear ho hlf hs hv hmv
    by_cases hlk : k < lo
    · obtain ⟨x, hxk⟩ : ∃ x, out[k]? = some x := ⟨_, List.getElem?_eq_getElem (by have := HLO.out; omega)⟩
      obtain ⟨g, off, rfl, hml, hr⟩ := tt.nsl_at HS.out k x hxk
      have HR := qh hr
      have HXK := qh hxk
      obtain ⟨hkb, hkt⟩ := HK.out x (List.mem_of_getElem? hxk)
      have HKB := qh hkb
      have HKT := qh hkt
      have HTK : Hid (out.take (k + 1) = out.take k ++ [x]) := qh (take_snoc hxk)
      obtain ⟨Dk, hDk⟩ : ∃ f, f = fun a q => C a q + came (out.take k) a q := ⟨_, rfl⟩
      obtain ⟨wk, hwk⟩ : ∃ l, l = way ++ ways rf (out.take k) := ⟨_, rfl⟩
      rw [← hDk, ← hwk] at HL
      have HDK := qh hDk
      have HWK := qh hwk
      have HNC : Hid (∀ a q, C a q + came (out.take (k + 1)) a q = Dk a q + (if cameB a q x then 1 else 0)) := qh fun a q => by rw [HTK.out, came_snoc, hDk]; simp only []; omega
      have HNW : Hid (way ++ ways rf (out.take (k + 1)) = wk ++ resp rf x) := qh (by rw [HTK.out, ways_snoc, hwk, List.append_assoc])
      have HWKL : Hid (wk.length ≤ 1000002641) := qh (by
        rw [hwk, List.length_append]
        have h1 := ways_len rf (out.take k)
        rw [List.length_take] at h1
        have := HWL.out; omega)
      have HDB : Hid (∀ a q, 0 ≤ Dk a q ∧ Dk a q ≤ 1000002641) := qh fun a q => by
        have h1 := came_le (out.take k) a q
        rw [List.length_take] at h1
        have := HC.out a q
        rw [hDk]; simp only []; omega
      clear hr hxk hkb hkt hml hDk hwk
      have HZ : Hid (wz.heap.size ≤ wr.heap.size) := qh HO.out.old.size
      have HFO : Hid (∀ i, F.own i → i < wr.heap.size) := qh fun i hi => HO.out.at'.own_lt hi
      by_cases h4 : x.k = 4
      · have HKK := qh h4
        have HK45 : Hid (x.k = 4 ∨ x.k = 5) := qh (.inl h4)
        clear h4
        have HNCZ : Hid ((fun a q => C a q + came (out.take (k + 1)) a q) = Dk) := qh (by funext a q; rw [HNC.out, if_neg (by unfold cameB; rw [HKK.out]; simp)]; omega)
        cases rf with
        | false =>
          have HRS : Hid (resp false x = [bare 9 x.t (-1) x.b 0 0 false false]) := qh (by unfold resp; rw [if_pos HK45.out]; rfl)
          go_wp2_with (first
            | ((with_reducible refine tt.load_na x _ g (off + k * 24) ?_ HR.out ?_); (rfl))
            | ((with_reducible refine tt.store_new x _ _ _ ?_ ?_ ?_ ?_); (rfl); (rfl); (rfl); obtain ⟨BX, hBX⟩ : ∃ B, wr.heap.size = B := ⟨_, rfl⟩; obtain ⟨wx, hwx⟩ : ∃ y, wr.alloc (.cells (na x) 31) = y := ⟨_, rfl⟩; have HGX : Hid (wr.grownBy wx none) := qh (by rw [← hwx]; exact grown_alloc (grown_refl _ _) _); have HBX : Hid (wx.heap[BX]? = some (.cells (na x) 31 (0, 0))) := qh (by rw [← hwx, ← hBX]; exact heap_alloc_new _ _); have HXL : Hid (wr.heap.size ≤ BX) := qh (Nat.le_of_eq hBX); obtain ⟨x0, _, x2, x3, _⟩ := note_cells (tt.range_of HBX.out); rw [Nat.zero_add] at x2 x3; rw [HKK.out] at x0; have HNB : Hid (na (bare 0 x.t (-1) x.b 0 0 false false) = _) := qh (tt.bare_na 0 x.t (-1) x.b 0 0 false false); rw [hwx, hBX]; clear hwx hBX)
            | ((with_reducible refine tt.store_lit _ _ HNB.out _ _ _ ?_ ?_ ?_ ?_); (rfl); (rfl); (rfl); obtain ⟨BY, hBY⟩ : ∃ B, wx.heap.size = B := ⟨_, rfl⟩; obtain ⟨wy, hwy⟩ : ∃ y, wx.alloc (.cells (na (bare 0 x.t (-1) x.b 0 0 false false)) 31) = y := ⟨_, rfl⟩; have hgy : wx.grownBy wy none := (by rw [← hwy]; exact grown_alloc (grown_refl _ _) _); have HGY := qh (grown_trans HGX.out hgy); have HBY : Hid (wy.heap[BY]? = some (.cells (na (bare 0 x.t (-1) x.b 0 0 false false)) 31 (0, 0))) := qh (by rw [← hwy, ← hBY]; exact heap_alloc_new _ _); have HYX := qh (row_up HBX.out hgy); have HYL : Hid (wr.heap.size ≤ BY ∧ BX ≠ BY) := qh (by have := HGX.out.size; have := lt_of HBX.out; omega); obtain ⟨y0, _, y2, y3, _⟩ := note_cells (tt.range_of HYX.out); rw [Nat.zero_add] at y2 y3; rw [HKK.out] at y0; rw [← HNB.out, hwy, hBY]; clear hwy hBY hgy x0 x2 x3 HNB)
            | ((with_reducible refine store_at _ _ 0 BY (.int .u8 9) (bare 0 x.t (-1) x.b 0 0 false false) (bare 9 x.t (-1) x.b 0 0 false false) HBY.out ?_ ?_ ?_ ?_ ?_ ?_); (rfl); (kernel_rfl); (rfl); (decide); (rfl); obtain ⟨wv, hwv⟩ : ∃ y, wy.setRow BY (na (bare 9 x.t (-1) x.b 0 0 false false)) = y := ⟨_, rfl⟩; have HGV : Hid (wr.grownBy wv none) := qh (by rw [← hwv]; exact en.grown_setRow HGY.out BY HYL.out.1 _); have HBV : Hid (wv.heap[BY]? = some (.cells (na (bare 9 x.t (-1) x.b 0 0 false false)) 31 (0, 0))) := qh (by rw [← hwv]; exact setRow_heap _ _ _ _ _ _ HBY.out); have HVX : Hid (wv.heap[BX]? = some (.cells (na x) 31 (0, 0))) := qh (by rw [← hwv]; exact (setRow_other _ _ _ _ HYL.out.2).trans HYX.out); rw [hwv]; clear hwv y0 y2 y3))
          obtain ⟨t', mm', HTT, hagg, hsize, hld⟩ := tt.named
          have HLD := qh hld
          have hfo := fold_note
          have hsz := tt.na_size
          clear hld
          rw [HTT.out]
          have HLV := qh (HL.out.grown HGV.out)
          refine wp_region_held_drew (S := fun w' => w'.heap[BY]? = some (.cells (na (bare 9 x.t (-1) x.b 0 0 false false)) 31 (0, 0)) ∧ w'.heap[BX]? = some (.cells (na x) 31 (0, 0))) (by kernel_rfl) ⟨HBV.out, HVX.out⟩ (fun hHeld => ?_)
          have HGD := qh (tt.grown_drew HGV.out)
          have HBD : Hid (wv.drew.heap[BY]? = some (.cells (na (bare 9 x.t (-1) x.b 0 0 false false)) 31 (0, 0)) ∧ wv.drew.heap[BX]? = some (.cells (na x) 31 (0, 0))) := qh ⟨HBV.out, HVX.out⟩
          generalize wv.drew = wd at hHeld HGD HBD ⊢
          have hc4 : wd.cell? ⟨fb, 1, none⟩ = some vk := cr (HL.out.grown HGD.out).blk 1 rfl
          refine hh.tl 0 ⟨some 46, Op.move (.tmp 0), _, _, _, _⟩ ?v7 rfl ?hy7 ?_
          case hy7 => ((intro w0 hSw; go_simp); try (with_reducible rfl))
          try simp only [lay]
          refine hh.tl 1 ⟨some 47, Op.move (.tmp 0), _, _, _, _⟩ ?v8 rfl ?hy8 ?_
          case hy8 => ((intro w0 hSw; go_simp); try (with_reducible rfl))
          try simp only [lay]
          refine hh.tl 2 ⟨some 48, Op.nilCheck (.tmp 47), _, _, _, _⟩ ?v9 rfl ?hy9 ?_
          case hy9 => ((intro w0 hSw; go_simp); try (with_reducible rfl))
          try simp only [lay]
          refine hh.tl 3 ⟨some 49, Op.fieldAddr 61 (.tmp 48) 1, _, _, _, _⟩ ?v10 rfl ?hy10 ?_
          case hy10 => ((intro w0 hSw; go_simp); try (with_reducible rfl))
          try simp only [lay]
          refine hh.tl 5 ⟨some 51, Op.load t' (.tmp 8), _, _, _, _⟩ ?v11 rfl ?hy11 ?_
          case hy11 => ((intro w0 hSw; have hs1 := HLD.out BY (bare 9 x.t (-1) x.b 0 0 false false) w0 (tt.range_of hSw.1); go_simp); try (with_reducible rfl))
          try simp only [lay]
          obtain ⟨wb, hwb⟩ : ∃ w', wd.alloc (.cells (na (bare 9 x.t (-1) x.b 0 0 false false)) 31) = w' := ⟨_, rfl⟩
          obtain ⟨BB, hBB⟩ : ∃ B, wd.heap.size = B := ⟨_, rfl⟩
          have hgb : wd.grownBy wb none := by rw [← hwb]; exact grown_alloc (grown_refl _ _) _
          have HGB := qh (grown_trans HGD.out hgb)
          have HBB : Hid (wb.heap[BB]? = some (.cells (na (bare 9 x.t (-1) x.b 0 0 false false)) 31 (0, 0))) := qh (by rw [← hwb, ← hBB]; exact heap_alloc_new _ _)
          have HSB : Hid (wb.heap[BY]? = some (.cells (na (bare 9 x.t (-1) x.b 0 0 false false)) 31 (0, 0)) ∧ wb.heap[BX]? = some (.cells (na x) 31 (0, 0))) := qh ⟨row_up HBD.out.1 hgb, row_up HBD.out.2 hgb⟩
          have hc5 : wb.cell? ⟨fb, 1, none⟩ = some vk := cr (HL.out.grown HGB.out).blk 1 rfl
          have HBW := qh hwb
          have HBS := qh hBB
          clear hwb hBB hgb
          refine wpAnyH_ready (rs := [4, 6]) (by kernel_rfl) (by simp) ?_
          refine AllReadyH.cons (o := ⟨some 50, Op.load 42 (.tmp 49), _, _, _, _⟩) rfl (fun K hK => ?_) (AllReadyH.cons (o := ⟨some 52, Op.buildSlice 42 1 #[(0, (.tmp 51))], _, _, _, _⟩) rfl (fun K hK => ?_) AllReadyH.nil)
          · skip
            go_simp
            refine hK.out _ _ HBD.out (fun hHeld => ?_)
            clear hK K
            try simp only [lay]
            refine rdo (i := 6) (o := ⟨some 52, Op.buildSlice 42 1 #[(0, (.tmp 51))], _, _, _, _⟩) rfl (fun K hK => ?_)
            go_simp
            rw [HBW.out, HBS.out]
            refine hK.out _ _ HSB.out (fun hHeld => ?_)
            clear hK K
            try simp only [lay]
            refine rdo (i := 7) (o := ⟨some 53, Op.call { callee := Callee.builtin Builtin.append, args := #[(.tmp 50), (.tmp 52)], argTypes := #[42, 42] }, _, _, _, _⟩) rfl (fun K hK => ?_)
            refine tt.step_append_sl rfl (Operand.tmp 50) (Operand.tmp 52) 42 42 rfl 31 24 i0 (.agg (na zn)) 112 Tryd.underlying42 hi hz0 hz1 hz2 tt.zn_cells vk wk.length (flat nt wk) rfl (HL.out.grown HGB.out).sl 1 (nt (bare 9 x.t (-1) x.b 0 0 false false)) (tt.src_one' _ BB (na (bare 9 x.t (-1) x.b 0 0 false false)) _ (nt (bare 9 x.t (-1) x.b 0 0 false false)) 24 Tryd.underlying42 HBB.out rfl (tt.nt_len _) (tt.nt_one _)) (by have := HWKL.out; unfold maxLen; omega) (by have := HWKL.out; omega) ?_
            intro v3 w3 hsl3 hgr3 hnx3
            obtain ⟨ad3, cap3, hv3⟩ := hsl3.form
            obtain ⟨n3, hn3⟩ : ∃ q, q = wk.length + 1 := ⟨_, rfl⟩
            rw [← hn3] at hv3
            have HN3 := qh hn3
            clear hn3
            subst hv3
            obtain ⟨⟨hc6, hf6⟩, hL3, hM3⟩ := HL.out.put HZ.out HFO.out HGB.out (snoc_sl hsl3) hgr3 hnx3
            have HB3 : Hid (w3.heap[BY]? = some (.cells (na (bare 9 x.t (-1) x.b 0 0 false false)) 31 (0, 0)) ∧ w3.heap[BX]? = some (.cells (na x) 31 (0, 0))) := qh ⟨(hgr3.block _ (lt_of HSB.out.1) (fun e => by have := HL.out.sl.lt _ e.symm; have := HYL.out.1; omega)).trans HSB.out.1, (hgr3.block _ (lt_of HSB.out.2) (fun e => by have := HL.out.sl.lt _ e.symm; have := HXL.out; omega)).trans HSB.out.2⟩
            have HL3 := qh hL3
            have HM3 := qh hM3
            clear hsl3 hgr3 hnx3 hL3 hM3
            refine hK.out _ _ HB3.out (fun hHeld => ?_)
            clear hK K
            try simp only [lay]
            refine hh.tl 8 ⟨some 54, Op.nilCheck (.tmp 46), _, _, _, _⟩ ?v12 rfl ?hy12 ?_
            case hy12 => ((intro w0 hSw; go_simp); try (with_reducible rfl))
            try simp only [lay]
            refine hh.tl 9 ⟨some 55, Op.fieldAddr 61 (.tmp 54) 1, _, _, _, _⟩ ?v13 rfl ?hy13 ?_
            case hy13 => ((intro w0 hSw; go_simp); try (with_reducible rfl))
            try simp only [lay]
            refine rdo (i := 10) (o := ⟨none, Op.store 42 (.tmp 55) (.tmp 53), _, _, _, _⟩) rfl (fun K hK => ?_)
            go_simp
            obtain ⟨wE, hwE⟩ : ∃ x, w3.setCell ⟨fb, 1, none⟩ (.slice ad3 n3 cap3) = x := ⟨_, rfl⟩
            have HBE : Hid (wE.heap[BY]? = some (.cells (na (bare 9 x.t (-1) x.b 0 0 false false)) 31 (0, 0)) ∧ wE.heap[BX]? = some (.cells (na x) 31 (0, 0))) := qh (by rw [← hwE]; exact ⟨(Below.heap_setCell _ _ _ _ (fun e => by have := HL.out.lt; have := HYL.out.1; dsimp only at e; omega)).trans HB3.out.1, (Below.heap_setCell _ _ _ _ (fun e => by have := HL.out.lt; have := HXL.out; dsimp only at e; omega)).trans HB3.out.2⟩)
            rw [hwE] at HL3 HM3 ⊢
            refine hK.out _ _ HBE.out (fun hHeld => ?_)
            clear hK K
            try simp only [lay]
            refine wpAnyH_done (by kernel_rfl) ?_ _
            clear hHeld hc4 hc5 hc6 hf6 hwE
            have HO3 := qh (HO.out.mv HL.out HM3.out)
            have HS3 := qh (HM3.out.sl HL.out HS.out HV.out)
            go_wp2_with fail
            go_roundw
            case rel => exact ⟨k + 1, .slice ad3 n3 cap3, by omega, by go_num, HO3.out, by rw [HNW.out]; exact (by rw [HRS.out, HNCZ.out]; exact HL3.out), HS3.out.1, HS3.out.2, HMV.out.trans HM3.out⟩
            case measure => simp [intOf]; omega
          · skip
            go_simp
            rw [HBW.out, HBS.out]
            refine hK.out _ _ HSB.out (fun hHeld => ?_)
            clear hK K
            try simp only [lay]
            refine rdo (i := 4) (o := ⟨some 50, Op.load 42 (.tmp 49), _, _, _, _⟩) rfl (fun K hK => ?_)
            go_simp
            refine hK.out _ _ HSB.out (fun hHeld => ?_)
            clear hK K
            try simp only [lay]
            refine rdo (i := 7) (o := ⟨some 53, Op.call { callee := Callee.builtin Builtin.append, args := #[(.tmp 50), (.tmp 52)], argTypes := #[42, 42] }, _, _, _, _⟩) rfl (fun K hK => ?_)
            refine tt.step_append_sl rfl (Operand.tmp 50) (Operand.tmp 52) 42 42 rfl 31 24 i0 (.agg (na zn)) 112 Tryd.underlying42 hi hz0 hz1 hz2 tt.zn_cells vk wk.length (flat nt wk) rfl (HL.out.grown HGB.out).sl 1 (nt (bare 9 x.t (-1) x.b 0 0 false false)) (tt.src_one' _ BB (na (bare 9 x.t (-1) x.b 0 0 false false)) _ (nt (bare 9 x.t (-1) x.b 0 0 false false)) 24 Tryd.underlying42 HBB.out rfl (tt.nt_len _) (tt.nt_one _)) (by have := HWKL.out; unfold maxLen; omega) (by have := HWKL.out; omega) ?_
            intro v3 w3 hsl3 hgr3 hnx3
            obtain ⟨ad3, cap3, hv3⟩ := hsl3.form
            obtain ⟨n3, hn3⟩ : ∃ q, q = wk.length + 1 := ⟨_, rfl⟩
            rw [← hn3] at hv3
            have HN3 := qh hn3
            clear hn3
            subst hv3
            obtain ⟨⟨hc6, hf6⟩, hL3, hM3⟩ := HL.out.put HZ.out HFO.out HGB.out (snoc_sl hsl3) hgr3 hnx3
            have HB3 : Hid (w3.heap[BY]? = some (.cells (na (bare 9 x.t (-1) x.b 0 0 false false)) 31 (0, 0)) ∧ w3.heap[BX]? = some (.cells (na x) 31 (0, 0))) := qh ⟨(hgr3.block _ (lt_of HSB.out.1) (fun e => by have := HL.out.sl.lt _ e.symm; have := HYL.out.1; omega)).trans HSB.out.1, (hgr3.block _ (lt_of HSB.out.2) (fun e => by have := HL.out.sl.lt _ e.symm; have := HXL.out; omega)).trans HSB.out.2⟩
            have HL3 := qh hL3
            have HM3 := qh hM3
            clear hsl3 hgr3 hnx3 hL3 hM3
            refine hK.out _ _ HB3.out (fun hHeld => ?_)
            clear hK K
            try simp only [lay]
            refine hh.tl 8 ⟨some 54, Op.nilCheck (.tmp 46), _, _, _, _⟩ ?v14 rfl ?hy14 ?_
            case hy14 => ((intro w0 hSw; go_simp); try (with_reducible rfl))
            try simp only [lay]
            refine hh.tl 9 ⟨some 55, Op.fieldAddr 61 (.tmp 54) 1, _, _, _, _⟩ ?v15 rfl ?hy15 ?_
            case hy15 => ((intro w0 hSw; go_simp); try (with_reducible rfl))
            try simp only [lay]
            refine rdo (i := 10) (o := ⟨none, Op.store 42 (.tmp 55) (.tmp 53), _, _, _, _⟩) rfl (fun K hK => ?_)
            go_simp
            obtain ⟨wE, hwE⟩ : ∃ x, w3.setCell ⟨fb, 1, none⟩ (.slice ad3 n3 cap3) = x := ⟨_, rfl⟩
            have HBE : Hid (wE.heap[BY]? = some (.cells (na (bare 9 x.t (-1) x.b 0 0 false false)) 31 (0, 0)) ∧ wE.heap[BX]? = some (.cells (na x) 31 (0, 0))) := qh (by rw [← hwE]; exact ⟨(Below.heap_setCell _ _ _ _ (fun e => by have := HL.out.lt; have := HYL.out.1; dsimp only at e; omega)).trans HB3.out.1, (Below.heap_setCell _ _ _ _ (fun e => by have := HL.out.lt; have := HXL.out; dsimp only at e; omega)).trans HB3.out.2⟩)
            rw [hwE] at HL3 HM3 ⊢
            refine hK.out _ _ HBE.out (fun hHeld => ?_)
            clear hK K
            try simp only [lay]
            refine wpAnyH_done (by kernel_rfl) ?_ _
            clear hHeld hc4 hc5 hc6 hf6 hwE
            have HO3 := qh (HO.out.mv HL.out HM3.out)
            have HS3 := qh (HM3.out.sl HL.out HS.out HV.out)
            go_wp2_with fail
            go_roundw
            case rel => exact ⟨k + 1, .slice ad3 n3 cap3, by omega, by go_num, HO3.out, by rw [HNW.out]; exact (by rw [HRS.out, HNCZ.out]; exact HL3.out), HS3.out.1, HS3.out.2, HMV.out.trans HM3.out⟩
            case measure => simp [intOf]; omega
        | true =>
          have HRS : Hid (resp true x = [bare 10 x.t (-1) x.b (x.t + 1) 0 false false]) := qh (by unfold resp; rw [if_pos HK45.out]; rfl)
          go_wp2_with (first
            | ((with_reducible refine tt.load_na x _ g (off + k * 24) ?_ HR.out ?_); (rfl))
            | ((with_reducible refine tt.store_new x _ _ _ ?_ ?_ ?_ ?_); (rfl); (rfl); (rfl); obtain ⟨BX, hBX⟩ : ∃ B, wr.heap.size = B := ⟨_, rfl⟩; obtain ⟨wx, hwx⟩ : ∃ y, wr.alloc (.cells (na x) 31) = y := ⟨_, rfl⟩; have HGX : Hid (wr.grownBy wx none) := qh (by rw [← hwx]; exact grown_alloc (grown_refl _ _) _); have HBX : Hid (wx.heap[BX]? = some (.cells (na x) 31 (0, 0))) := qh (by rw [← hwx, ← hBX]; exact heap_alloc_new _ _); have HXL : Hid (wr.heap.size ≤ BX) := qh (Nat.le_of_eq hBX); obtain ⟨x0, _, x2, x3, _⟩ := note_cells (tt.range_of HBX.out); rw [Nat.zero_add] at x2 x3; rw [HKK.out] at x0; have HNB : Hid (na (bare 0 x.t (-1) x.b 0 0 false false) = _) := qh (tt.bare_na 0 x.t (-1) x.b 0 0 false false); rw [hwx, hBX]; clear hwx hBX)
            | ((with_reducible refine tt.store_lit _ _ HNB.out _ _ _ ?_ ?_ ?_ ?_); (rfl); (rfl); (rfl); obtain ⟨BY, hBY⟩ : ∃ B, wx.heap.size = B := ⟨_, rfl⟩; obtain ⟨wy, hwy⟩ : ∃ y, wx.alloc (.cells (na (bare 0 x.t (-1) x.b 0 0 false false)) 31) = y := ⟨_, rfl⟩; have hgy : wx.grownBy wy none := (by rw [← hwy]; exact grown_alloc (grown_refl _ _) _); have HGY := qh (grown_trans HGX.out hgy); have HBY : Hid (wy.heap[BY]? = some (.cells (na (bare 0 x.t (-1) x.b 0 0 false false)) 31 (0, 0))) := qh (by rw [← hwy, ← hBY]; exact heap_alloc_new _ _); have HYX := qh (row_up HBX.out hgy); have HYL : Hid (wr.heap.size ≤ BY ∧ BX ≠ BY) := qh (by have := HGX.out.size; have := lt_of HBX.out; omega); obtain ⟨y0, _, y2, y3, _⟩ := note_cells (tt.range_of HYX.out); rw [Nat.zero_add] at y2 y3; rw [HKK.out] at y0; rw [← HNB.out, hwy, hBY]; clear hwy hBY hgy x0 x2 x3 HNB)
            | ((with_reducible refine store_at _ _ 0 BY (.int .u8 9) (bare 0 x.t (-1) x.b 0 0 false false) (bare 9 x.t (-1) x.b 0 0 false false) HBY.out ?_ ?_ ?_ ?_ ?_ ?_); (rfl); (kernel_rfl); (rfl); (decide); (rfl); obtain ⟨wv, hwv⟩ : ∃ y, wy.setRow BY (na (bare 9 x.t (-1) x.b 0 0 false false)) = y := ⟨_, rfl⟩; have HGV : Hid (wr.grownBy wv none) := qh (by rw [← hwv]; exact en.grown_setRow HGY.out BY HYL.out.1 _); have HBV : Hid (wv.heap[BY]? = some (.cells (na (bare 9 x.t (-1) x.b 0 0 false false)) 31 (0, 0))) := qh (by rw [← hwv]; exact setRow_heap _ _ _ _ _ _ HBY.out); have HVX : Hid (wv.heap[BX]? = some (.cells (na x) 31 (0, 0))) := qh (by rw [← hwv]; exact (setRow_other _ _ _ _ HYL.out.2).trans HYX.out); rw [hwv]; clear hwv y0 y2 y3))
          refine wp_region_held_drew (S := fun w' => w'.heap[BX]? = some (.cells (na x) 31 (0, 0))) (by kernel_rfl) HVX.out (fun hHeld => ?_)
          have HGZ := qh (tt.grown_drew HGV.out)
          have HBZ : Hid (wv.drew.heap[BY]? = some (.cells (na (bare 9 x.t (-1) x.b 0 0 false false)) 31 (0, 0))) := qh HBV.out
          have HXZ : Hid (wv.drew.heap[BX]? = some (.cells (na x) 31 (0, 0))) := qh HVX.out
          have hwt : IntKind.i64.wrap (x.t + 1) = x.t + 1 := IntWalk.i64_in _ (by have := HKT.out; omega)
          have hcv : IntKind.u64.wrap (x.t + 1) = x.t + 1 := by have := HKT.out; simp [IntKind.wrap, IntKind.bits, IntKind.signed]; omega
          generalize wv.drew = wz' at hHeld HGZ HBZ HXZ ⊢
          refine hh.tl 0 ⟨some 40, Op.fieldAddr 31 (.tmp 7) 2, _, _, _, _⟩ ?v16 rfl ?hy16 ?_
          case hy16 => ((intro w0 hSw; go_simp); try (with_reducible rfl))
          try simp only [lay]
          refine hh.tl 1 ⟨some 41, Op.load 3 (.tmp 40), _, _, _, _⟩ ?v17 rfl ?hy17 ?_
          case hy17 => ((intro w0 hSw; obtain ⟨_, _, hs2, _, _⟩ := note_cells (tt.range_of hSw); rw [Nat.zero_add] at hs2; go_simp); try (with_reducible rfl))
          try simp only [lay]
          refine hh.tl 2 ⟨some 42, Op.binOp BinOp.add 3 (.tmp 41) (.const (Value.int IntKind.i64 1)) _, _, _, _, _⟩ ?v18 rfl ?hy18 ?_
          case hy18 => ((intro w0 hSw; go_simp); try (with_reducible rfl))
          try simp only [lay]
          refine hh.tl 3 ⟨some 43, Op.convert 3 25 (.tmp 42), _, _, _, _⟩ ?v19 rfl ?hy19 ?_
          case hy19 => ((intro w0 hSw; go_simp); try (with_reducible rfl))
          try simp only [lay]
          refine hh.tl 4 ⟨some 44, Op.fieldAddr 31 (.tmp 8) 0, _, _, _, _⟩ ?v20 rfl ?hy20 ?_
          case hy20 => ((intro w0 hSw; go_simp); try (with_reducible rfl))
          try simp only [lay]
          refine rdo (i := 5) (o := ⟨none, Op.store 5 (.tmp 44) (.const (Value.int IntKind.u8 10)), _, _, _, _⟩) rfl (fun K hK => ?_)
          refine fire_at rfl _ 44 (.const (.int .u8 10)) rfl BY 0 (.int .u8 10) (bare 9 x.t (-1) x.b 0 0 false false) (bare 10 x.t (-1) x.b 0 0 false false) HBZ.out rfl rfl (by kernel_rfl) rfl (by decide) rfl ?_
          obtain ⟨wu, hw'⟩ : ∃ y, wz'.setRow BY (na (bare 10 x.t (-1) x.b 0 0 false false)) = y := ⟨_, rfl⟩
          have HGU : Hid (wr.grownBy wu none) := qh (by rw [← hw']; exact en.grown_setRow HGZ.out BY HYL.out.1 _)
          have HBU : Hid (wu.heap[BY]? = some (.cells (na (bare 10 x.t (-1) x.b 0 0 false false)) 31 (0, 0))) := qh (by rw [← hw']; exact setRow_heap _ _ _ _ _ _ HBZ.out)
          have HXU : Hid (wu.heap[BX]? = some (.cells (na x) 31 (0, 0))) := qh (by rw [← hw']; exact (setRow_other _ _ _ _ HYL.out.2).trans HXZ.out)
          rw [hw']
          clear hw'
          refine hK.out _ _ HXU.out (fun hHeld => ?_)
          clear hK K
          try simp only [lay]
          refine hh.tl 6 ⟨some 45, Op.fieldAddr 31 (.tmp 8) 4, _, _, _, _⟩ ?v21 rfl ?hy21 ?_
          case hy21 => ((intro w0 hSw; go_simp); try (with_reducible rfl))
          try simp only [lay]
          refine rdo (i := 7) (o := ⟨none, Op.store 25 (.tmp 45) (.tmp 43), _, _, _, _⟩) rfl (fun K hK => ?_)
          refine fire_at rfl _ 45 (.tmp 43) rfl BY 4 (.int .u64 (x.t + 1)) (bare 10 x.t (-1) x.b 0 0 false false) (bare 10 x.t (-1) x.b (x.t + 1) 0 false false) HBU.out rfl rfl (by kernel_rfl) rfl (by decide) rfl ?_
          obtain ⟨wv, hw'⟩ : ∃ y, wu.setRow BY (na (bare 10 x.t (-1) x.b (x.t + 1) 0 false false)) = y := ⟨_, rfl⟩
          have HGV : Hid (wr.grownBy wv none) := qh (by rw [← hw']; exact en.grown_setRow HGU.out BY HYL.out.1 _)
          have HBV : Hid (wv.heap[BY]? = some (.cells (na (bare 10 x.t (-1) x.b (x.t + 1) 0 false false)) 31 (0, 0))) := qh (by rw [← hw']; exact setRow_heap _ _ _ _ _ _ HBU.out)
          have HVX : Hid (wv.heap[BX]? = some (.cells (na x) 31 (0, 0))) := qh (by rw [← hw']; exact (setRow_other _ _ _ _ HYL.out.2).trans HXU.out)
          rw [hw']
          clear hw'
          refine hK.out _ _ HVX.out (fun hHeld => ?_)
          clear hK K
          try simp only [lay]
          refine wpAnyH_done (by kernel_rfl) ?_ _
          clear hHeld hwt hcv
          go_wp2_with fail
          obtain ⟨t', mm', HTT, hagg, hsize, hld⟩ := tt.named
          have HLD := qh hld
          have hfo := fold_note
          have hsz := tt.na_size
          clear hld
          rw [HTT.out]
          have HLV := qh (HL.out.grown HGV.out)
          refine wp_region_held_drew (S := fun w' => w'.heap[BY]? = some (.cells (na (bare 10 x.t (-1) x.b (x.t + 1) 0 false false)) 31 (0, 0)) ∧ w'.heap[BX]? = some (.cells (na x) 31 (0, 0))) (by kernel_rfl) ⟨HBV.out, HVX.out⟩ (fun hHeld => ?_)
          have HGD := qh (tt.grown_drew HGV.out)
          have HBD : Hid (wv.drew.heap[BY]? = some (.cells (na (bare 10 x.t (-1) x.b (x.t + 1) 0 false false)) 31 (0, 0)) ∧ wv.drew.heap[BX]? = some (.cells (na x) 31 (0, 0))) := qh ⟨HBV.out, HVX.out⟩
          generalize wv.drew = wd at hHeld HGD HBD ⊢
          have hc4 : wd.cell? ⟨fb, 1, none⟩ = some vk := cr (HL.out.grown HGD.out).blk 1 rfl
          refine hh.tl 0 ⟨some 46, Op.move (.tmp 0), _, _, _, _⟩ ?v22 rfl ?hy22 ?_
          case hy22 => ((intro w0 hSw; go_simp); try (with_reducible rfl))
          try simp only [lay]
          refine hh.tl 1 ⟨some 47, Op.move (.tmp 0), _, _, _, _⟩ ?v23 rfl ?hy23 ?_
          case hy23 => ((intro w0 hSw; go_simp); try (with_reducible rfl))
          try simp only [lay]
          refine hh.tl 2 ⟨some 48, Op.nilCheck (.tmp 47), _, _, _, _⟩ ?v24 rfl ?hy24 ?_
          case hy24 => ((intro w0 hSw; go_simp); try (with_reducible rfl))
          try simp only [lay]
          refine hh.tl 3 ⟨some 49, Op.fieldAddr 61 (.tmp 48) 1, _, _, _, _⟩ ?v25 rfl ?hy25 ?_
          case hy25 => ((intro w0 hSw; go_simp); try (with_reducible rfl))
          try simp only [lay]
          refine hh.tl 5 ⟨some 51, Op.load t' (.tmp 8), _, _, _, _⟩ ?v26 rfl ?hy26 ?_
          case hy26 => ((intro w0 hSw; have hs1 := HLD.out BY (bare 10 x.t (-1) x.b (x.t + 1) 0 false false) w0 (tt.range_of hSw.1); go_simp); try (with_reducible rfl))
          try simp only [lay]
          obtain ⟨wb, hwb⟩ : ∃ w', wd.alloc (.cells (na (bare 10 x.t (-1) x.b (x.t + 1) 0 false false)) 31) = w' := ⟨_, rfl⟩
          obtain ⟨BB, hBB⟩ : ∃ B, wd.heap.size = B := ⟨_, rfl⟩
          have hgb : wd.grownBy wb none := by rw [← hwb]; exact grown_alloc (grown_refl _ _) _
          have HGB := qh (grown_trans HGD.out hgb)
          have HBB : Hid (wb.heap[BB]? = some (.cells (na (bare 10 x.t (-1) x.b (x.t + 1) 0 false false)) 31 (0, 0))) := qh (by rw [← hwb, ← hBB]; exact heap_alloc_new _ _)
          have HSB : Hid (wb.heap[BY]? = some (.cells (na (bare 10 x.t (-1) x.b (x.t + 1) 0 false false)) 31 (0, 0)) ∧ wb.heap[BX]? = some (.cells (na x) 31 (0, 0))) := qh ⟨row_up HBD.out.1 hgb, row_up HBD.out.2 hgb⟩
          have hc5 : wb.cell? ⟨fb, 1, none⟩ = some vk := cr (HL.out.grown HGB.out).blk 1 rfl
          have HBW := qh hwb
          have HBS := qh hBB
          clear hwb hBB hgb
          refine wpAnyH_ready (rs := [4, 6]) (by kernel_rfl) (by simp) ?_
          refine AllReadyH.cons (o := ⟨some 50, Op.load 42 (.tmp 49), _, _, _, _⟩) rfl (fun K hK => ?_) (AllReadyH.cons (o := ⟨some 52, Op.buildSlice 42 1 #[(0, (.tmp 51))], _, _, _, _⟩) rfl (fun K hK => ?_) AllReadyH.nil)
          · skip
            go_simp
            refine hK.out _ _ HBD.out (fun hHeld => ?_)
            clear hK K
            try simp only [lay]
            refine rdo (i := 6) (o := ⟨some 52, Op.buildSlice 42 1 #[(0, (.tmp 51))], _, _, _, _⟩) rfl (fun K hK => ?_)
            go_simp
            rw [HBW.out, HBS.out]
            refine hK.out _ _ HSB.out (fun hHeld => ?_)
            clear hK K
            try simp only [lay]
            refine rdo (i := 7) (o := ⟨some 53, Op.call { callee := Callee.builtin Builtin.append, args := #[(.tmp 50), (.tmp 52)], argTypes := #[42, 42] }, _, _, _, _⟩) rfl (fun K hK => ?_)
            refine tt.step_append_sl rfl (Operand.tmp 50) (Operand.tmp 52) 42 42 rfl 31 24 i0 (.agg (na zn)) 112 Tryd.underlying42 hi hz0 hz1 hz2 tt.zn_cells vk wk.length (flat nt wk) rfl (HL.out.grown HGB.out).sl 1 (nt (bare 10 x.t (-1) x.b (x.t + 1) 0 false false)) (tt.src_one' _ BB (na (bare 10 x.t (-1) x.b (x.t + 1) 0 false false)) _ (nt (bare 10 x.t (-1) x.b (x.t + 1) 0 false false)) 24 Tryd.underlying42 HBB.out rfl (tt.nt_len _) (tt.nt_one _)) (by have := HWKL.out; unfold maxLen; omega) (by have := HWKL.out; omega) ?_
            intro v3 w3 hsl3 hgr3 hnx3
            obtain ⟨ad3, cap3, hv3⟩ := hsl3.form
            obtain ⟨n3, hn3⟩ : ∃ q, q = wk.length + 1 := ⟨_, rfl⟩
            rw [← hn3] at hv3
            have HN3 := qh hn3
            clear hn3
            subst hv3
            obtain ⟨⟨hc6, hf6⟩, hL3, hM3⟩ := HL.out.put HZ.out HFO.out HGB.out (snoc_sl hsl3) hgr3 hnx3
            have HB3 : Hid (w3.heap[BY]? = some (.cells (na (bare 10 x.t (-1) x.b (x.t + 1) 0 false false)) 31 (0, 0)) ∧ w3.heap[BX]? = some (.cells (na x) 31 (0, 0))) := qh ⟨(hgr3.block _ (lt_of HSB.out.1) (fun e => by have := HL.out.sl.lt _ e.symm; have := HYL.out.1; omega)).trans HSB.out.1, (hgr3.block _ (lt_of HSB.out.2) (fun e => by have := HL.out.sl.lt _ e.symm; have := HXL.out; omega)).trans HSB.out.2⟩
            have HL3 := qh hL3
            have HM3 := qh hM3
            clear hsl3 hgr3 hnx3 hL3 hM3
            refine hK.out _ _ HB3.out (fun hHeld => ?_)
            clear hK K
            try simp only [lay]
            refine hh.tl 8 ⟨some 54, Op.nilCheck (.tmp 46), _, _, _, _⟩ ?v27 rfl ?hy27 ?_
            case hy27 => ((intro w0 hSw; go_simp); try (with_reducible rfl))
            try simp only [lay]
            refine hh.tl 9 ⟨some 55, Op.fieldAddr 61 (.tmp 54) 1, _, _, _, _⟩ ?v28 rfl ?hy28 ?_
            case hy28 => ((intro w0 hSw; go_simp); try (with_reducible rfl))
            try simp only [lay]
            refine rdo (i := 10) (o := ⟨none, Op.store 42 (.tmp 55) (.tmp 53), _, _, _, _⟩) rfl (fun K hK => ?_)
            go_simp
            obtain ⟨wE, hwE⟩ : ∃ x, w3.setCell ⟨fb, 1, none⟩ (.slice ad3 n3 cap3) = x := ⟨_, rfl⟩
            have HBE : Hid (wE.heap[BY]? = some (.cells (na (bare 10 x.t (-1) x.b (x.t + 1) 0 false false)) 31 (0, 0)) ∧ wE.heap[BX]? = some (.cells (na x) 31 (0, 0))) := qh (by rw [← hwE]; exact ⟨(Below.heap_setCell _ _ _ _ (fun e => by have := HL.out.lt; have := HYL.out.1; dsimp only at e; omega)).trans HB3.out.1, (Below.heap_setCell _ _ _ _ (fun e => by have := HL.out.lt; have := HXL.out; dsimp only at e; omega)).trans HB3.out.2⟩)
            rw [hwE] at HL3 HM3 ⊢
            refine hK.out _ _ HBE.out (fun hHeld => ?_)
            clear hK K
            try simp only [lay]
            refine wpAnyH_done (by kernel_rfl) ?_ _
            clear hHeld hc4 hc5 hc6 hf6 hwE
            have HO3 := qh (HO.out.mv HL.out HM3.out)
            have HS3 := qh (HM3.out.sl HL.out HS.out HV.out)
            go_wp2_with fail
            go_roundw
            case rel => exact ⟨k + 1, .slice ad3 n3 cap3, by omega, by go_num, HO3.out, by rw [HNW.out]; exact (by rw [HRS.out, HNCZ.out]; exact HL3.out), HS3.out.1, HS3.out.2, HMV.out.trans HM3.out⟩
            case measure => simp [intOf]; omega
          · skip
            go_simp
            rw [HBW.out, HBS.out]
            refine hK.out _ _ HSB.out (fun hHeld => ?_)
            clear hK K
            try simp only [lay]
            refine rdo (i := 4) (o := ⟨some 50, Op.load 42 (.tmp 49), _, _, _, _⟩) rfl (fun K hK => ?_)
            go_simp
            refine hK.out _ _ HSB.out (fun hHeld => ?_)
            clear hK K
            try simp only [lay]
            refine rdo (i := 7) (o := ⟨some 53, Op.call { callee := Callee.builtin Builtin.append, args := #[(.tmp 50), (.tmp 52)], argTypes := #[42, 42] }, _, _, _, _⟩) rfl (fun K hK => ?_)
            refine tt.step_append_sl rfl (Operand.tmp 50) (Operand.tmp 52) 42 42 rfl 31 24 i0 (.agg (na zn)) 112 Tryd.underlying42 hi hz0 hz1 hz2 tt.zn_cells vk wk.length (flat nt wk) rfl (HL.out.grown HGB.out).sl 1 (nt (bare 10 x.t (-1) x.b (x.t + 1) 0 false false)) (tt.src_one' _ BB (na (bare 10 x.t (-1) x.b (x.t + 1) 0 false false)) _ (nt (bare 10 x.t (-1) x.b (x.t + 1) 0 false false)) 24 Tryd.underlying42 HBB.out rfl (tt.nt_len _) (tt.nt_one _)) (by have := HWKL.out; unfold maxLen; omega) (by have := HWKL.out; omega) ?_
            intro v3 w3 hsl3 hgr3 hnx3
            obtain ⟨ad3, cap3, hv3⟩ := hsl3.form
            obtain ⟨n3, hn3⟩ : ∃ q, q = wk.length + 1 := ⟨_, rfl⟩
            rw [← hn3] at hv3
            have HN3 := qh hn3
            clear hn3
            subst hv3
            obtain ⟨⟨hc6, hf6⟩, hL3, hM3⟩ := HL.out.put HZ.out HFO.out HGB.out (snoc_sl hsl3) hgr3 hnx3
            have HB3 : Hid (w3.heap[BY]? = some (.cells (na (bare 10 x.t (-1) x.b (x.t + 1) 0 false false)) 31 (0, 0)) ∧ w3.heap[BX]? = some (.cells (na x) 31 (0, 0))) := qh ⟨(hgr3.block _ (lt_of HSB.out.1) (fun e => by have := HL.out.sl.lt _ e.symm; have := HYL.out.1; omega)).trans HSB.out.1, (hgr3.block _ (lt_of HSB.out.2) (fun e => by have := HL.out.sl.lt _ e.symm; have := HXL.out; omega)).trans HSB.out.2⟩
            have HL3 := qh hL3
            have HM3 := qh hM3
            clear hsl3 hgr3 hnx3 hL3 hM3
            refine hK.out _ _ HB3.out (fun hHeld => ?_)
            clear hK K
            try simp only [lay]
            refine hh.tl 8 ⟨some 54, Op.nilCheck (.tmp 46), _, _, _, _⟩ ?v29 rfl ?hy29 ?_
            case hy29 => ((intro w0 hSw; go_simp); try (with_reducible rfl))
            try simp only [lay]
            refine hh.tl 9 ⟨some 55, Op.fieldAddr 61 (.tmp 54) 1, _, _, _, _⟩ ?v30 rfl ?hy30 ?_
            case hy30 => ((intro w0 hSw; go_simp); try (with_reducible rfl))
            try simp only [lay]
            refine rdo (i := 10) (o := ⟨none, Op.store 42 (.tmp 55) (.tmp 53), _, _, _, _⟩) rfl (fun K hK => ?_)
            go_simp
            obtain ⟨wE, hwE⟩ : ∃ x, w3.setCell ⟨fb, 1, none⟩ (.slice ad3 n3 cap3) = x := ⟨_, rfl⟩
            have HBE : Hid (wE.heap[BY]? = some (.cells (na (bare 10 x.t (-1) x.b (x.t + 1) 0 false false)) 31 (0, 0)) ∧ wE.heap[BX]? = some (.cells (na x) 31 (0, 0))) := qh (by rw [← hwE]; exact ⟨(Below.heap_setCell _ _ _ _ (fun e => by have := HL.out.lt; have := HYL.out.1; dsimp only at e; omega)).trans HB3.out.1, (Below.heap_setCell _ _ _ _ (fun e => by have := HL.out.lt; have := HXL.out; dsimp only at e; omega)).trans HB3.out.2⟩)
            rw [hwE] at HL3 HM3 ⊢
            refine hK.out _ _ HBE.out (fun hHeld => ?_)
            clear hK K
            try simp only [lay]
            refine wpAnyH_done (by kernel_rfl) ?_ _
            clear hHeld hc4 hc5 hc6 hf6 hwE
            have HO3 := qh (HO.out.mv HL.out HM3.out)
            have HS3 := qh (HM3.out.sl HL.out HS.out HV.out)
            go_wp2_with fail
            go_roundw
            case rel => exact ⟨k + 1, .slice ad3 n3 cap3, by omega, by go_num, HO3.out, by rw [HNW.out]; exact (by rw [HRS.out, HNCZ.out]; exact HL3.out), HS3.out.1, HS3.out.2, HMV.out.trans HM3.out⟩
            case measure => simp [intOf]; omega
      · by_cases h5 : x.k = 5
        · have HKK := qh h5
          have HK45 : Hid (x.k = 4 ∨ x.k = 5) := qh (.inr h5)
          clear h4 h5
          have HNCZ : Hid ((fun a q => C a q + came (out.take (k + 1)) a q) = Dk) := qh (by funext a q; rw [HNC.out, if_neg (by unfold cameB; rw [HKK.out]; simp)]; omega)
          cases rf with
          | false =>
            have HRS : Hid (resp false x = [bare 9 x.t (-1) x.b 0 0 false false]) := qh (by unfold resp; rw [if_pos HK45.out]; rfl)
            go_wp2_with (first
              | ((with_reducible refine tt.load_na x _ g (off + k * 24) ?_ HR.out ?_); (rfl))
              | ((with_reducible refine tt.store_new x _ _ _ ?_ ?_ ?_ ?_); (rfl); (rfl); (rfl); obtain ⟨BX, hBX⟩ : ∃ B, wr.heap.size = B := ⟨_, rfl⟩; obtain ⟨wx, hwx⟩ : ∃ y, wr.alloc (.cells (na x) 31) = y := ⟨_, rfl⟩; have HGX : Hid (wr.grownBy wx none) := qh (by rw [← hwx]; exact grown_alloc (grown_refl _ _) _); have HBX : Hid (wx.heap[BX]? = some (.cells (na x) 31 (0, 0))) := qh (by rw [← hwx, ← hBX]; exact heap_alloc_new _ _); have HXL : Hid (wr.heap.size ≤ BX) := qh (Nat.le_of_eq hBX); obtain ⟨x0, _, x2, x3, _⟩ := note_cells (tt.range_of HBX.out); rw [Nat.zero_add] at x2 x3; rw [HKK.out] at x0; have HNB : Hid (na (bare 0 x.t (-1) x.b 0 0 false false) = _) := qh (tt.bare_na 0 x.t (-1) x.b 0 0 false false); rw [hwx, hBX]; clear hwx hBX)
              | ((with_reducible refine tt.store_lit _ _ HNB.out _ _ _ ?_ ?_ ?_ ?_); (rfl); (rfl); (rfl); obtain ⟨BY, hBY⟩ : ∃ B, wx.heap.size = B := ⟨_, rfl⟩; obtain ⟨wy, hwy⟩ : ∃ y, wx.alloc (.cells (na (bare 0 x.t (-1) x.b 0 0 false false)) 31) = y := ⟨_, rfl⟩; have hgy : wx.grownBy wy none := (by rw [← hwy]; exact grown_alloc (grown_refl _ _) _); have HGY := qh (grown_trans HGX.out hgy); have HBY : Hid (wy.heap[BY]? = some (.cells (na (bare 0 x.t (-1) x.b 0 0 false false)) 31 (0, 0))) := qh (by rw [← hwy, ← hBY]; exact heap_alloc_new _ _); have HYX := qh (row_up HBX.out hgy); have HYL : Hid (wr.heap.size ≤ BY ∧ BX ≠ BY) := qh (by have := HGX.out.size; have := lt_of HBX.out; omega); obtain ⟨y0, _, y2, y3, _⟩ := note_cells (tt.range_of HYX.out); rw [Nat.zero_add] at y2 y3; rw [HKK.out] at y0; rw [← HNB.out, hwy, hBY]; clear hwy hBY hgy x0 x2 x3 HNB)
              | ((with_reducible refine store_at _ _ 0 BY (.int .u8 9) (bare 0 x.t (-1) x.b 0 0 false false) (bare 9 x.t (-1) x.b 0 0 false false) HBY.out ?_ ?_ ?_ ?_ ?_ ?_); (rfl); (kernel_rfl); (rfl); (decide); (rfl); obtain ⟨wv, hwv⟩ : ∃ y, wy.setRow BY (na (bare 9 x.t (-1) x.b 0 0 false false)) = y := ⟨_, rfl⟩; have HGV : Hid (wr.grownBy wv none) := qh (by rw [← hwv]; exact en.grown_setRow HGY.out BY HYL.out.1 _); have HBV : Hid (wv.heap[BY]? = some (.cells (na (bare 9 x.t (-1) x.b 0 0 false false)) 31 (0, 0))) := qh (by rw [← hwv]; exact setRow_heap _ _ _ _ _ _ HBY.out); have HVX : Hid (wv.heap[BX]? = some (.cells (na x) 31 (0, 0))) := qh (by rw [← hwv]; exact (setRow_other _ _ _ _ HYL.out.2).trans HYX.out); rw [hwv]; clear hwv y0 y2 y3))
            obtain ⟨t', mm', HTT, hagg, hsize, hld⟩ := tt.named
            have HLD := qh hld
            have hfo := fold_note
            have hsz := tt.na_size
            clear hld
            rw [HTT.out]
            have HLV := qh (HL.out.grown HGV.out)
            refine wp_region_held_drew (S := fun w' => w'.heap[BY]? = some (.cells (na (bare 9 x.t (-1) x.b 0 0 false false)) 31 (0, 0)) ∧ w'.heap[BX]? = some (.cells (na x) 31 (0, 0))) (by kernel_rfl) ⟨HBV.out, HVX.out⟩ (fun hHeld => ?_)
            have HGD := qh (tt.grown_drew HGV.out)
            have HBD : Hid (wv.drew.heap[BY]? = some (.cells (na (bare 9 x.t (-1) x.b 0 0 false false)) 31 (0, 0)) ∧ wv.drew.heap[BX]? = some (.cells (na x) 31 (0, 0))) := qh ⟨HBV.out, HVX.out⟩
            generalize wv.drew = wd at hHeld HGD HBD ⊢
            have hc4 : wd.cell? ⟨fb, 1, none⟩ = some vk := cr (HL.out.grown HGD.out).blk 1 rfl
            refine hh.tl 0 ⟨some 46, Op.move (.tmp 0), _, _, _, _⟩ ?v37 rfl ?hy37 ?_
            case hy37 => ((intro w0 hSw; go_simp); try (with_reducible rfl))
            try simp only [lay]
            refine hh.tl 1 ⟨some 47, Op.move (.tmp 0), _, _, _, _⟩ ?v38 rfl ?hy38 ?_
            case hy38 => ((intro w0 hSw; go_simp); try (with_reducible rfl))
            try simp only [lay]
            refine hh.tl 2 ⟨some 48, Op.nilCheck (.tmp 47), _, _, _, _⟩ ?v39 rfl ?hy39 ?_
            case hy39 => ((intro w0 hSw; go_simp); try (with_reducible rfl))
            try simp only [lay]
            refine hh.tl 3 ⟨some 49, Op.fieldAddr 61 (.tmp 48) 1, _, _, _, _⟩ ?v40 rfl ?hy40 ?_
            case hy40 => ((intro w0 hSw; go_simp); try (with_reducible rfl))
            try simp only [lay]
            refine hh.tl 5 ⟨some 51, Op.load t' (.tmp 8), _, _, _, _⟩ ?v41 rfl ?hy41 ?_
            case hy41 => ((intro w0 hSw; have hs1 := HLD.out BY (bare 9 x.t (-1) x.b 0 0 false false) w0 (tt.range_of hSw.1); go_simp); try (with_reducible rfl))
            try simp only [lay]
            obtain ⟨wb, hwb⟩ : ∃ w', wd.alloc (.cells (na (bare 9 x.t (-1) x.b 0 0 false false)) 31) = w' := ⟨_, rfl⟩
            obtain ⟨BB, hBB⟩ : ∃ B, wd.heap.size = B := ⟨_, rfl⟩
            have hgb : wd.grownBy wb none := by rw [← hwb]; exact grown_alloc (grown_refl _ _) _
            have HGB := qh (grown_trans HGD.out hgb)
            have HBB : Hid (wb.heap[BB]? = some (.cells (na (bare 9 x.t (-1) x.b 0 0 false false)) 31 (0, 0))) := qh (by rw [← hwb, ← hBB]; exact heap_alloc_new _ _)
            have HSB : Hid (wb.heap[BY]? = some (.cells (na (bare 9 x.t (-1) x.b 0 0 false false)) 31 (0, 0)) ∧ wb.heap[BX]? = some (.cells (na x) 31 (0, 0))) := qh ⟨row_up HBD.out.1 hgb, row_up HBD.out.2 hgb⟩
            have hc5 : wb.cell? ⟨fb, 1, none⟩ = some vk := cr (HL.out.grown HGB.out).blk 1 rfl
            have HBW := qh hwb
            have HBS := qh hBB
            clear hwb hBB hgb
            refine wpAnyH_ready (rs := [4, 6]) (by kernel_rfl) (by simp) ?_
            refine AllReadyH.cons (o := ⟨some 50, Op.load 42 (.tmp 49), _, _, _, _⟩) rfl (fun K hK => ?_) (AllReadyH.cons (o := ⟨some 52, Op.buildSlice 42 1 #[(0, (.tmp 51))], _, _, _, _⟩) rfl (fun K hK => ?_) AllReadyH.nil)
            · skip
              go_simp
              refine hK.out _ _ HBD.out (fun hHeld => ?_)
              clear hK K
              try simp only [lay]
              refine rdo (i := 6) (o := ⟨some 52, Op.buildSlice 42 1 #[(0, (.tmp 51))], _, _, _, _⟩) rfl (fun K hK => ?_)
              go_simp
              rw [HBW.out, HBS.out]
              refine hK.out _ _ HSB.out (fun hHeld => ?_)
              clear hK K
              try simp only [lay]
              refine rdo (i := 7) (o := ⟨some 53, Op.call { callee := Callee.builtin Builtin.append, args := #[(.tmp 50), (.tmp 52)], argTypes := #[42, 42] }, _, _, _, _⟩) rfl (fun K hK => ?_)
              refine tt.step_append_sl rfl (Operand.tmp 50) (Operand.tmp 52) 42 42 rfl 31 24 i0 (.agg (na zn)) 112 Tryd.underlying42 hi hz0 hz1 hz2 tt.zn_cells vk wk.length (flat nt wk) rfl (HL.out.grown HGB.out).sl 1 (nt (bare 9 x.t (-1) x.b 0 0 false false)) (tt.src_one' _ BB (na (bare 9 x.t (-1) x.b 0 0 false false)) _ (nt (bare 9 x.t (-1) x.b 0 0 false false)) 24 Tryd.underlying42 HBB.out rfl (tt.nt_len _) (tt.nt_one _)) (by have := HWKL.out; unfold maxLen; omega) (by have := HWKL.out; omega) ?_
              intro v3 w3 hsl3 hgr3 hnx3
              obtain ⟨ad3, cap3, hv3⟩ := hsl3.form
              obtain ⟨n3, hn3⟩ : ∃ q, q = wk.length + 1 := ⟨_, rfl⟩
              rw [← hn3] at hv3
              have HN3 := qh hn3
              clear hn3
              subst hv3
              obtain ⟨⟨hc6, hf6⟩, hL3, hM3⟩ := HL.out.put HZ.out HFO.out HGB.out (snoc_sl hsl3) hgr3 hnx3
              have HB3 : Hid (w3.heap[BY]? = some (.cells (na (bare 9 x.t (-1) x.b 0 0 false false)) 31 (0, 0)) ∧ w3.heap[BX]? = some (.cells (na x) 31 (0, 0))) := qh ⟨(hgr3.block _ (lt_of HSB.out.1) (fun e => by have := HL.out.sl.lt _ e.symm; have := HYL.out.1; omega)).trans HSB.out.1, (hgr3.block _ (lt_of HSB.out.2) (fun e => by have := HL.out.sl.lt _ e.symm; have := HXL.out; omega)).trans HSB.out.2⟩
              have HL3 := qh hL3
              have HM3 := qh hM3
              clear hsl3 hgr3 hnx3 hL3 hM3
              refine hK.out _ _ HB3.out (fun hHeld => ?_)
              clear hK K
              try simp only [lay]
              refine hh.tl 8 ⟨some 54, Op.nilCheck (.tmp 46), _, _, _, _⟩ ?v42 rfl ?hy42 ?_
              case hy42 => ((intro w0 hSw; go_simp); try (with_reducible rfl))
              try simp only [lay]
              refine hh.tl 9 ⟨some 55, Op.fieldAddr 61 (.tmp 54) 1, _, _, _, _⟩ ?v43 rfl ?hy43 ?_
              case hy43 => ((intro w0 hSw; go_simp); try (with_reducible rfl))
              try simp only [lay]
              refine rdo (i := 10) (o := ⟨none, Op.store 42 (.tmp 55) (.tmp 53), _, _, _, _⟩) rfl (fun K hK => ?_)
              go_simp
              obtain ⟨wE, hwE⟩ : ∃ x, w3.setCell ⟨fb, 1, none⟩ (.slice ad3 n3 cap3) = x := ⟨_, rfl⟩
              have HBE : Hid (wE.heap[BY]? = some (.cells (na (bare 9 x.t (-1) x.b 0 0 false false)) 31 (0, 0)) ∧ wE.heap[BX]? = some (.cells (na x) 31 (0, 0))) := qh (by rw [← hwE]; exact ⟨(Below.heap_setCell _ _ _ _ (fun e => by have := HL.out.lt; have := HYL.out.1; dsimp only at e; omega)).trans HB3.out.1, (Below.heap_setCell _ _ _ _ (fun e => by have := HL.out.lt; have := HXL.out; dsimp only at e; omega)).trans HB3.out.2⟩)
              rw [hwE] at HL3 HM3 ⊢
              refine hK.out _ _ HBE.out (fun hHeld => ?_)
              clear hK K
              try simp only [lay]
              refine wpAnyH_done (by kernel_rfl) ?_ _
              clear hHeld hc4 hc5 hc6 hf6 hwE
              have HO3 := qh (HO.out.mv HL.out HM3.out)
              have HS3 := qh (HM3.out.sl HL.out HS.out HV.out)
              go_wp2_with fail
              go_roundw
              case rel => exact ⟨k + 1, .slice ad3 n3 cap3, by omega, by go_num, HO3.out, by rw [HNW.out]; exact (by rw [HRS.out, HNCZ.out]; exact HL3.out), HS3.out.1, HS3.out.2, HMV.out.trans HM3.out⟩
              case measure => simp [intOf]; omega
            · skip
              go_simp
              rw [HBW.out, HBS.out]
              refine hK.out _ _ HSB.out (fun hHeld => ?_)
              clear hK K
              try simp only [lay]
              refine rdo (i := 4) (o := ⟨some 50, Op.load 42 (.tmp 49), _, _, _, _⟩) rfl (fun K hK => ?_)
              go_simp
              refine hK.out _ _ HSB.out (fun hHeld => ?_)
              clear hK K
              try simp only [lay]
              refine rdo (i := 7) (o := ⟨some 53, Op.call { callee := Callee.builtin Builtin.append, args := #[(.tmp 50), (.tmp 52)], argTypes := #[42, 42] }, _, _, _, _⟩) rfl (fun K hK => ?_)
              refine tt.step_append_sl rfl (Operand.tmp 50) (Operand.tmp 52) 42 42 rfl 31 24 i0 (.agg (na zn)) 112 Tryd.underlying42 hi hz0 hz1 hz2 tt.zn_cells vk wk.length (flat nt wk) rfl (HL.out.grown HGB.out).sl 1 (nt (bare 9 x.t (-1) x.b 0 0 false false)) (tt.src_one' _ BB (na (bare 9 x.t (-1) x.b 0 0 false false)) _ (nt (bare 9 x.t (-1) x.b 0 0 false false)) 24 Tryd.underlying42 HBB.out rfl (tt.nt_len _) (tt.nt_one _)) (by have := HWKL.out; unfold maxLen; omega) (by have := HWKL.out; omega) ?_
              intro v3 w3 hsl3 hgr3 hnx3
              obtain ⟨ad3, cap3, hv3⟩ := hsl3.form
              obtain ⟨n3, hn3⟩ : ∃ q, q = wk.length + 1 := ⟨_, rfl⟩
              rw [← hn3] at hv3
              have HN3 := qh hn3
              clear hn3
              subst hv3
              obtain ⟨⟨hc6, hf6⟩, hL3, hM3⟩ := HL.out.put HZ.out HFO.out HGB.out (snoc_sl hsl3) hgr3 hnx3
              have HB3 : Hid (w3.heap[BY]? = some (.cells (na (bare 9 x.t (-1) x.b 0 0 false false)) 31 (0, 0)) ∧ w3.heap[BX]? = some (.cells (na x) 31 (0, 0))) := qh ⟨(hgr3.block _ (lt_of HSB.out.1) (fun e => by have := HL.out.sl.lt _ e.symm; have := HYL.out.1; omega)).trans HSB.out.1, (hgr3.block _ (lt_of HSB.out.2) (fun e => by have := HL.out.sl.lt _ e.symm; have := HXL.out; omega)).trans HSB.out.2⟩
              have HL3 := qh hL3
              have HM3 := qh hM3
              clear hsl3 hgr3 hnx3 hL3 hM3
              refine hK.out _ _ HB3.out (fun hHeld => ?_)
              clear hK K
              try simp only [lay]
              refine hh.tl 8 ⟨some 54, Op.nilCheck (.tmp 46), _, _, _, _⟩ ?v44 rfl ?hy44 ?_
              case hy44 => ((intro w0 hSw; go_simp); try (with_reducible rfl))
              try simp only [lay]
              refine hh.tl 9 ⟨some 55, Op.fieldAddr 61 (.tmp 54) 1, _, _, _, _⟩ ?v45 rfl ?hy45 ?_
              case hy45 => ((intro w0 hSw; go_simp); try (with_reducible rfl))
              try simp only [lay]
              refine rdo (i := 10) (o := ⟨none, Op.store 42 (.tmp 55) (.tmp 53), _, _, _, _⟩) rfl (fun K hK => ?_)
              go_simp
              obtain ⟨wE, hwE⟩ : ∃ x, w3.setCell ⟨fb, 1, none⟩ (.slice ad3 n3 cap3) = x := ⟨_, rfl⟩
              have HBE : Hid (wE.heap[BY]? = some (.cells (na (bare 9 x.t (-1) x.b 0 0 false false)) 31 (0, 0)) ∧ wE.heap[BX]? = some (.cells (na x) 31 (0, 0))) := qh (by rw [← hwE]; exact ⟨(Below.heap_setCell _ _ _ _ (fun e => by have := HL.out.lt; have := HYL.out.1; dsimp only at e; omega)).trans HB3.out.1, (Below.heap_setCell _ _ _ _ (fun e => by have := HL.out.lt; have := HXL.out; dsimp only at e; omega)).trans HB3.out.2⟩)
              rw [hwE] at HL3 HM3 ⊢
              refine hK.out _ _ HBE.out (fun hHeld => ?_)
              clear hK K
              try simp only [lay]
              refine wpAnyH_done (by kernel_rfl) ?_ _
              clear hHeld hc4 hc5 hc6 hf6 hwE
              have HO3 := qh (HO.out.mv HL.out HM3.out)
              have HS3 := qh (HM3.out.sl HL.out HS.out HV.out)
              go_wp2_with fail
              go_roundw
              case rel => exact ⟨k + 1, .slice ad3 n3 cap3, by omega, by go_num, HO3.out, by rw [HNW.out]; exact (by rw [HRS.out, HNCZ.out]; exact HL3.out), HS3.out.1, HS3.out.2, HMV.out.trans HM3.out⟩
              case measure => simp [intOf]; omega
          | true =>
            have HRS : Hid (resp true x = [bare 10 x.t (-1) x.b (x.t + 1) 0 false false]) := qh (by unfold resp; rw [if_pos HK45.out]; rfl)
            go_wp2_with (first
              | ((with_reducible refine tt.load_na x _ g (off + k * 24) ?_ HR.out ?_); (rfl))
              | ((with_reducible refine tt.store_new x _ _ _ ?_ ?_ ?_ ?_); (rfl); (rfl); (rfl); obtain ⟨BX, hBX⟩ : ∃ B, wr.heap.size = B := ⟨_, rfl⟩; obtain ⟨wx, hwx⟩ : ∃ y, wr.alloc (.cells (na x) 31) = y := ⟨_, rfl⟩; have HGX : Hid (wr.grownBy wx none) := qh (by rw [← hwx]; exact grown_alloc (grown_refl _ _) _); have HBX : Hid (wx.heap[BX]? = some (.cells (na x) 31 (0, 0))) := qh (by rw [← hwx, ← hBX]; exact heap_alloc_new _ _); have HXL : Hid (wr.heap.size ≤ BX) := qh (Nat.le_of_eq hBX); obtain ⟨x0, _, x2, x3, _⟩ := note_cells (tt.range_of HBX.out); rw [Nat.zero_add] at x2 x3; rw [HKK.out] at x0; have HNB : Hid (na (bare 0 x.t (-1) x.b 0 0 false false) = _) := qh (tt.bare_na 0 x.t (-1) x.b 0 0 false false); rw [hwx, hBX]; clear hwx hBX)
              | ((with_reducible refine tt.store_lit _ _ HNB.out _ _ _ ?_ ?_ ?_ ?_); (rfl); (rfl); (rfl); obtain ⟨BY, hBY⟩ : ∃ B, wx.heap.size = B := ⟨_, rfl⟩; obtain ⟨wy, hwy⟩ : ∃ y, wx.alloc (.cells (na (bare 0 x.t (-1) x.b 0 0 false false)) 31) = y := ⟨_, rfl⟩; have hgy : wx.grownBy wy none := (by rw [← hwy]; exact grown_alloc (grown_refl _ _) _); have HGY := qh (grown_trans HGX.out hgy); have HBY : Hid (wy.heap[BY]? = some (.cells (na (bare 0 x.t (-1) x.b 0 0 false false)) 31 (0, 0))) := qh (by rw [← hwy, ← hBY]; exact heap_alloc_new _ _); have HYX := qh (row_up HBX.out hgy); have HYL : Hid (wr.heap.size ≤ BY ∧ BX ≠ BY) := qh (by have := HGX.out.size; have := lt_of HBX.out; omega); obtain ⟨y0, _, y2, y3, _⟩ := note_cells (tt.range_of HYX.out); rw [Nat.zero_add] at y2 y3; rw [HKK.out] at y0; rw [← HNB.out, hwy, hBY]; clear hwy hBY hgy x0 x2 x3 HNB)
              | ((with_reducible refine store_at _ _ 0 BY (.int .u8 9) (bare 0 x.t (-1) x.b 0 0 false false) (bare 9 x.t (-1) x.b 0 0 false false) HBY.out ?_ ?_ ?_ ?_ ?_ ?_); (rfl); (kernel_rfl); (rfl); (decide); (rfl); obtain ⟨wv, hwv⟩ : ∃ y, wy.setRow BY (na (bare 9 x.t (-1) x.b 0 0 false false)) = y := ⟨_, rfl⟩; have HGV : Hid (wr.grownBy wv none) := qh (by rw [← hwv]; exact en.grown_setRow HGY.out BY HYL.out.1 _); have HBV : Hid (wv.heap[BY]? = some (.cells (na (bare 9 x.t (-1) x.b 0 0 false false)) 31 (0, 0))) := qh (by rw [← hwv]; exact setRow_heap _ _ _ _ _ _ HBY.out); have HVX : Hid (wv.heap[BX]? = some (.cells (na x) 31 (0, 0))) := qh (by rw [← hwv]; exact (setRow_other _ _ _ _ HYL.out.2).trans HYX.out); rw [hwv]; clear hwv y0 y2 y3))
            refine wp_region_held_drew (S := fun w' => w'.heap[BX]? = some (.cells (na x) 31 (0, 0))) (by kernel_rfl) HVX.out (fun hHeld => ?_)
            have HGZ := qh (tt.grown_drew HGV.out)
            have HBZ : Hid (wv.drew.heap[BY]? = some (.cells (na (bare 9 x.t (-1) x.b 0 0 false false)) 31 (0, 0))) := qh HBV.out
            have HXZ : Hid (wv.drew.heap[BX]? = some (.cells (na x) 31 (0, 0))) := qh HVX.out
            have hwt : IntKind.i64.wrap (x.t + 1) = x.t + 1 := IntWalk.i64_in _ (by have := HKT.out; omega)
            have hcv : IntKind.u64.wrap (x.t + 1) = x.t + 1 := by have := HKT.out; simp [IntKind.wrap, IntKind.bits, IntKind.signed]; omega
            generalize wv.drew = wz' at hHeld HGZ HBZ HXZ ⊢
            refine hh.tl 0 ⟨some 40, Op.fieldAddr 31 (.tmp 7) 2, _, _, _, _⟩ ?v46 rfl ?hy46 ?_
            case hy46 => ((intro w0 hSw; go_simp); try (with_reducible rfl))
            try simp only [lay]
            refine hh.tl 1 ⟨some 41, Op.load 3 (.tmp 40), _, _, _, _⟩ ?v47 rfl ?hy47 ?_
            case hy47 => ((intro w0 hSw; obtain ⟨_, _, hs2, _, _⟩ := note_cells (tt.range_of hSw); rw [Nat.zero_add] at hs2; go_simp); try (with_reducible rfl))
            try simp only [lay]
            refine hh.tl 2 ⟨some 42, Op.binOp BinOp.add 3 (.tmp 41) (.const (Value.int IntKind.i64 1)) _, _, _, _, _⟩ ?v48 rfl ?hy48 ?_
            case hy48 => ((intro w0 hSw; go_simp); try (with_reducible rfl))
            try simp only [lay]
            refine hh.tl 3 ⟨some 43, Op.convert 3 25 (.tmp 42), _, _, _, _⟩ ?v49 rfl ?hy49 ?_
            case hy49 => ((intro w0 hSw; go_simp); try (with_reducible rfl))
            try simp only [lay]
            refine hh.tl 4 ⟨some 44, Op.fieldAddr 31 (.tmp 8) 0, _, _, _, _⟩ ?v50 rfl ?hy50 ?_
            case hy50 => ((intro w0 hSw; go_simp); try (with_reducible rfl))
            try simp only [lay]
            refine rdo (i := 5) (o := ⟨none, Op.store 5 (.tmp 44) (.const (Value.int IntKind.u8 10)), _, _, _, _⟩) rfl (fun K hK => ?_)
            refine fire_at rfl _ 44 (.const (.int .u8 10)) rfl BY 0 (.int .u8 10) (bare 9 x.t (-1) x.b 0 0 false false) (bare 10 x.t (-1) x.b 0 0 false false) HBZ.out rfl rfl (by kernel_rfl) rfl (by decide) rfl ?_
            obtain ⟨wu, hw'⟩ : ∃ y, wz'.setRow BY (na (bare 10 x.t (-1) x.b 0 0 false false)) = y := ⟨_, rfl⟩
            have HGU : Hid (wr.grownBy wu none) := qh (by rw [← hw']; exact en.grown_setRow HGZ.out BY HYL.out.1 _)
            have HBU : Hid (wu.heap[BY]? = some (.cells (na (bare 10 x.t (-1) x.b 0 0 false false)) 31 (0, 0))) := qh (by rw [← hw']; exact setRow_heap _ _ _ _ _ _ HBZ.out)
            have HXU : Hid (wu.heap[BX]? = some (.cells (na x) 31 (0, 0))) := qh (by rw [← hw']; exact (setRow_other _ _ _ _ HYL.out.2).trans HXZ.out)
            rw [hw']
            clear hw'
            refine hK.out _ _ HXU.out (fun hHeld => ?_)
            clear hK K
            try simp only [lay]
            refine hh.tl 6 ⟨some 45, Op.fieldAddr 31 (.tmp 8) 4, _, _, _, _⟩ ?v51 rfl ?hy51 ?_
            case hy51 => ((intro w0 hSw; go_simp); try (with_reducible rfl))
            try simp only [lay]
            refine rdo (i := 7) (o := ⟨none, Op.store 25 (.tmp 45) (.tmp 43), _, _, _, _⟩) rfl (fun K hK => ?_)
            refine fire_at rfl _ 45 (.tmp 43) rfl BY 4 (.int .u64 (x.t + 1)) (bare 10 x.t (-1) x.b 0 0 false false) (bare 10 x.t (-1) x.b (x.t + 1) 0 false false) HBU.out rfl rfl (by kernel_rfl) rfl (by decide) rfl ?_
            obtain ⟨wv, hw'⟩ : ∃ y, wu.setRow BY (na (bare 10 x.t (-1) x.b (x.t + 1) 0 false false)) = y := ⟨_, rfl⟩
            have HGV : Hid (wr.grownBy wv none) := qh (by rw [← hw']; exact en.grown_setRow HGU.out BY HYL.out.1 _)
            have HBV : Hid (wv.heap[BY]? = some (.cells (na (bare 10 x.t (-1) x.b (x.t + 1) 0 false false)) 31 (0, 0))) := qh (by rw [← hw']; exact setRow_heap _ _ _ _ _ _ HBU.out)
            have HVX : Hid (wv.heap[BX]? = some (.cells (na x) 31 (0, 0))) := qh (by rw [← hw']; exact (setRow_other _ _ _ _ HYL.out.2).trans HXU.out)
            rw [hw']
            clear hw'
            refine hK.out _ _ HVX.out (fun hHeld => ?_)
            clear hK K
            try simp only [lay]
            refine wpAnyH_done (by kernel_rfl) ?_ _
            clear hHeld hwt hcv
            go_wp2_with fail
            obtain ⟨t', mm', HTT, hagg, hsize, hld⟩ := tt.named
            have HLD := qh hld
            have hfo := fold_note
            have hsz := tt.na_size
            clear hld
            rw [HTT.out]
            have HLV := qh (HL.out.grown HGV.out)
            refine wp_region_held_drew (S := fun w' => w'.heap[BY]? = some (.cells (na (bare 10 x.t (-1) x.b (x.t + 1) 0 false false)) 31 (0, 0)) ∧ w'.heap[BX]? = some (.cells (na x) 31 (0, 0))) (by kernel_rfl) ⟨HBV.out, HVX.out⟩ (fun hHeld => ?_)
            have HGD := qh (tt.grown_drew HGV.out)
            have HBD : Hid (wv.drew.heap[BY]? = some (.cells (na (bare 10 x.t (-1) x.b (x.t + 1) 0 false false)) 31 (0, 0)) ∧ wv.drew.heap[BX]? = some (.cells (na x) 31 (0, 0))) := qh ⟨HBV.out, HVX.out⟩
            generalize wv.drew = wd at hHeld HGD HBD ⊢
            have hc4 : wd.cell? ⟨fb, 1, none⟩ = some vk := cr (HL.out.grown HGD.out).blk 1 rfl
            refine hh.tl 0 ⟨some 46, Op.move (.tmp 0), _, _, _, _⟩ ?v52 rfl ?hy52 ?_
            case hy52 => ((intro w0 hSw; go_simp); try (with_reducible rfl))
            try simp only [lay]
            refine hh.tl 1 ⟨some 47, Op.move (.tmp 0), _, _, _, _⟩ ?v53 rfl ?hy53 ?_
            case hy53 => ((intro w0 hSw; go_simp); try (with_reducible rfl))
            try simp only [lay]
            refine hh.tl 2 ⟨some 48, Op.nilCheck (.tmp 47), _, _, _, _⟩ ?v54 rfl ?hy54 ?_
            case hy54 => ((intro w0 hSw; go_simp); try (with_reducible rfl))
            try simp only [lay]
            refine hh.tl 3 ⟨some 49, Op.fieldAddr 61 (.tmp 48) 1, _, _, _, _⟩ ?v55 rfl ?hy55 ?_
            case hy55 => ((intro w0 hSw; go_simp); try (with_reducible rfl))
            try simp only [lay]
            refine hh.tl 5 ⟨some 51, Op.load t' (.tmp 8), _, _, _, _⟩ ?v56 rfl ?hy56 ?_
            case hy56 => ((intro w0 hSw; have hs1 := HLD.out BY (bare 10 x.t (-1) x.b (x.t + 1) 0 false false) w0 (tt.range_of hSw.1); go_simp); try (with_reducible rfl))
            try simp only [lay]
            obtain ⟨wb, hwb⟩ : ∃ w', wd.alloc (.cells (na (bare 10 x.t (-1) x.b (x.t + 1) 0 false false)) 31) = w' := ⟨_, rfl⟩
            obtain ⟨BB, hBB⟩ : ∃ B, wd.heap.size = B := ⟨_, rfl⟩
            have hgb : wd.grownBy wb none := by rw [← hwb]; exact grown_alloc (grown_refl _ _) _
            have HGB := qh (grown_trans HGD.out hgb)
            have HBB : Hid (wb.heap[BB]? = some (.cells (na (bare 10 x.t (-1) x.b (x.t + 1) 0 false false)) 31 (0, 0))) := qh (by rw [← hwb, ← hBB]; exact heap_alloc_new _ _)
            have HSB : Hid (wb.heap[BY]? = some (.cells (na (bare 10 x.t (-1) x.b (x.t + 1) 0 false false)) 31 (0, 0)) ∧ wb.heap[BX]? = some (.cells (na x) 31 (0, 0))) := qh ⟨row_up HBD.out.1 hgb, row_up HBD.out.2 hgb⟩
            have hc5 : wb.cell? ⟨fb, 1, none⟩ = some vk := cr (HL.out.grown HGB.out).blk 1 rfl
            have HBW := qh hwb
            have HBS := qh hBB
            clear hwb hBB hgb
            refine wpAnyH_ready (rs := [4, 6]) (by kernel_rfl) (by simp) ?_
            refine AllReadyH.cons (o := ⟨some 50, Op.load 42 (.tmp 49), _, _, _, _⟩) rfl (fun K hK => ?_) (AllReadyH.cons (o := ⟨some 52, Op.buildSlice 42 1 #[(0, (.tmp 51))], _, _, _, _⟩) rfl (fun K hK => ?_) AllReadyH.nil)
            · skip
              go_simp
              refine hK.out _ _ HBD.out (fun hHeld => ?_)
              clear hK K
              try simp only [lay]
              refine rdo (i := 6) (o := ⟨some 52, Op.buildSlice 42 1 #[(0, (.tmp 51))], _, _, _, _⟩) rfl (fun K hK => ?_)
              go_simp
              rw [HBW.out, HBS.out]
              refine hK.out _ _ HSB.out (fun hHeld => ?_)
              clear hK K
              try simp only [lay]
              refine rdo (i := 7) (o := ⟨some 53, Op.call { callee := Callee.builtin Builtin.append, args := #[(.tmp 50), (.tmp 52)], argTypes := #[42, 42] }, _, _, _, _⟩) rfl (fun K hK => ?_)
              refine tt.step_append_sl rfl (Operand.tmp 50) (Operand.tmp 52) 42 42 rfl 31 24 i0 (.agg (na zn)) 112 Tryd.underlying42 hi hz0 hz1 hz2 tt.zn_cells vk wk.length (flat nt wk) rfl (HL.out.grown HGB.out).sl 1 (nt (bare 10 x.t (-1) x.b (x.t + 1) 0 false false)) (tt.src_one' _ BB (na (bare 10 x.t (-1) x.b (x.t + 1) 0 false false)) _ (nt (bare 10 x.t (-1) x.b (x.t + 1) 0 false false)) 24 Tryd.underlying42 HBB.out rfl (tt.nt_len _) (tt.nt_one _)) (by have := HWKL.out; unfold maxLen; omega) (by have := HWKL.out; omega) ?_
              intro v3 w3 hsl3 hgr3 hnx3
              obtain ⟨ad3, cap3, hv3⟩ := hsl3.form
              obtain ⟨n3, hn3⟩ : ∃ q, q = wk.length + 1 := ⟨_, rfl⟩
              rw [← hn3] at hv3
              have HN3 := qh hn3
              clear hn3
              subst hv3
              obtain ⟨⟨hc6, hf6⟩, hL3, hM3⟩ := HL.out.put HZ.out HFO.out HGB.out (snoc_sl hsl3) hgr3 hnx3
              have HB3 : Hid (w3.heap[BY]? = some (.cells (na (bare 10 x.t (-1) x.b (x.t + 1) 0 false false)) 31 (0, 0)) ∧ w3.heap[BX]? = some (.cells (na x) 31 (0, 0))) := qh ⟨(hgr3.block _ (lt_of HSB.out.1) (fun e => by have := HL.out.sl.lt _ e.symm; have := HYL.out.1; omega)).trans HSB.out.1, (hgr3.block _ (lt_of HSB.out.2) (fun e => by have := HL.out.sl.lt _ e.symm; have := HXL.out; omega)).trans HSB.out.2⟩
              have HL3 := qh hL3
              have HM3 := qh hM3
              clear hsl3 hgr3 hnx3 hL3 hM3
              refine hK.out _ _ HB3.out (fun hHeld => ?_)
              clear hK K
              try simp only [lay]
              refine hh.tl 8 ⟨some 54, Op.nilCheck (.tmp 46), _, _, _, _⟩ ?v57 rfl ?hy57 ?_
              case hy57 => ((intro w0 hSw; go_simp); try (with_reducible rfl))
              try simp only [lay]
              refine hh.tl 9 ⟨some 55, Op.fieldAddr 61 (.tmp 54) 1, _, _, _, _⟩ ?v58 rfl ?hy58 ?_
              case hy58 => ((intro w0 hSw; go_simp); try (with_reducible rfl))
              try simp only [lay]
              refine rdo (i := 10) (o := ⟨none, Op.store 42 (.tmp 55) (.tmp 53), _, _, _, _⟩) rfl (fun K hK => ?_)
              go_simp
              obtain ⟨wE, hwE⟩ : ∃ x, w3.setCell ⟨fb, 1, none⟩ (.slice ad3 n3 cap3) = x := ⟨_, rfl⟩
              have HBE : Hid (wE.heap[BY]? = some (.cells (na (bare 10 x.t (-1) x.b (x.t + 1) 0 false false)) 31 (0, 0)) ∧ wE.heap[BX]? = some (.cells (na x) 31 (0, 0))) := qh (by rw [← hwE]; exact ⟨(Below.heap_setCell _ _ _ _ (fun e => by have := HL.out.lt; have := HYL.out.1; dsimp only at e; omega)).trans HB3.out.1, (Below.heap_setCell _ _ _ _ (fun e => by have := HL.out.lt; have := HXL.out; dsimp only at e; omega)).trans HB3.out.2⟩)
              rw [hwE] at HL3 HM3 ⊢
              refine hK.out _ _ HBE.out (fun hHeld => ?_)
              clear hK K
              try simp only [lay]
              refine wpAnyH_done (by kernel_rfl) ?_ _
              clear hHeld hc4 hc5 hc6 hf6 hwE
              have HO3 := qh (HO.out.mv HL.out HM3.out)
              have HS3 := qh (HM3.out.sl HL.out HS.out HV.out)
              go_wp2_with fail
              go_roundw
              case rel => exact ⟨k + 1, .slice ad3 n3 cap3, by omega, by go_num, HO3.out, by rw [HNW.out]; exact (by rw [HRS.out, HNCZ.out]; exact HL3.out), HS3.out.1, HS3.out.2, HMV.out.trans HM3.out⟩
              case measure => simp [intOf]; omega
            · skip
              go_simp
              rw [HBW.out, HBS.out]
              refine hK.out _ _ HSB.out (fun hHeld => ?_)
              clear hK K
              try simp only [lay]
              refine rdo (i := 4) (o := ⟨some 50, Op.load 42 (.tmp 49), _, _, _, _⟩) rfl (fun K hK => ?_)
              go_simp
              refine hK.out _ _ HSB.out (fun hHeld => ?_)
              clear hK K
              try simp only [lay]
              refine rdo (i := 7) (o := ⟨some 53, Op.call { callee := Callee.builtin Builtin.append, args := #[(.tmp 50), (.tmp 52)], argTypes := #[42, 42] }, _, _, _, _⟩) rfl (fun K hK => ?_)
              refine tt.step_append_sl rfl (Operand.tmp 50) (Operand.tmp 52) 42 42 rfl 31 24 i0 (.agg (na zn)) 112 Tryd.underlying42 hi hz0 hz1 hz2 tt.zn_cells vk wk.length (flat nt wk) rfl (HL.out.grown HGB.out).sl 1 (nt (bare 10 x.t (-1) x.b (x.t + 1) 0 false false)) (tt.src_one' _ BB (na (bare 10 x.t (-1) x.b (x.t + 1) 0 false false)) _ (nt (bare 10 x.t (-1) x.b (x.t + 1) 0 false false)) 24 Tryd.underlying42 HBB.out rfl (tt.nt_len _) (tt.nt_one _)) (by have := HWKL.out; unfold maxLen; omega) (by have := HWKL.out; omega) ?_
              intro v3 w3 hsl3 hgr3 hnx3
              obtain ⟨ad3, cap3, hv3⟩ := hsl3.form
              obtain ⟨n3, hn3⟩ : ∃ q, q = wk.length + 1 := ⟨_, rfl⟩
              rw [← hn3] at hv3
              have HN3 := qh hn3
              clear hn3
              subst hv3
              obtain ⟨⟨hc6, hf6⟩, hL3, hM3⟩ := HL.out.put HZ.out HFO.out HGB.out (snoc_sl hsl3) hgr3 hnx3
              have HB3 : Hid (w3.heap[BY]? = some (.cells (na (bare 10 x.t (-1) x.b (x.t + 1) 0 false false)) 31 (0, 0)) ∧ w3.heap[BX]? = some (.cells (na x) 31 (0, 0))) := qh ⟨(hgr3.block _ (lt_of HSB.out.1) (fun e => by have := HL.out.sl.lt _ e.symm; have := HYL.out.1; omega)).trans HSB.out.1, (hgr3.block _ (lt_of HSB.out.2) (fun e => by have := HL.out.sl.lt _ e.symm; have := HXL.out; omega)).trans HSB.out.2⟩
              have HL3 := qh hL3
              have HM3 := qh hM3
              clear hsl3 hgr3 hnx3 hL3 hM3
              refine hK.out _ _ HB3.out (fun hHeld => ?_)
              clear hK K
              try simp only [lay]
              refine hh.tl 8 ⟨some 54, Op.nilCheck (.tmp 46), _, _, _, _⟩ ?v59 rfl ?hy59 ?_
              case hy59 => ((intro w0 hSw; go_simp); try (with_reducible rfl))
              try simp only [lay]
              refine hh.tl 9 ⟨some 55, Op.fieldAddr 61 (.tmp 54) 1, _, _, _, _⟩ ?v60 rfl ?hy60 ?_
              case hy60 => ((intro w0 hSw; go_simp); try (with_reducible rfl))
              try simp only [lay]
              refine rdo (i := 10) (o := ⟨none, Op.store 42 (.tmp 55) (.tmp 53), _, _, _, _⟩) rfl (fun K hK => ?_)
              go_simp
              obtain ⟨wE, hwE⟩ : ∃ x, w3.setCell ⟨fb, 1, none⟩ (.slice ad3 n3 cap3) = x := ⟨_, rfl⟩
              have HBE : Hid (wE.heap[BY]? = some (.cells (na (bare 10 x.t (-1) x.b (x.t + 1) 0 false false)) 31 (0, 0)) ∧ wE.heap[BX]? = some (.cells (na x) 31 (0, 0))) := qh (by rw [← hwE]; exact ⟨(Below.heap_setCell _ _ _ _ (fun e => by have := HL.out.lt; have := HYL.out.1; dsimp only at e; omega)).trans HB3.out.1, (Below.heap_setCell _ _ _ _ (fun e => by have := HL.out.lt; have := HXL.out; dsimp only at e; omega)).trans HB3.out.2⟩)
              rw [hwE] at HL3 HM3 ⊢
              refine hK.out _ _ HBE.out (fun hHeld => ?_)
              clear hK K
              try simp only [lay]
              refine wpAnyH_done (by kernel_rfl) ?_ _
              clear hHeld hc4 hc5 hc6 hf6 hwE
              have HO3 := qh (HO.out.mv HL.out HM3.out)
              have HS3 := qh (HM3.out.sl HL.out HS.out HV.out)
              go_wp2_with fail
              go_roundw
              case rel => exact ⟨k + 1, .slice ad3 n3 cap3, by omega, by go_num, HO3.out, by rw [HNW.out]; exact (by rw [HRS.out, HNCZ.out]; exact HL3.out), HS3.out.1, HS3.out.2, HMV.out.trans HM3.out⟩
              case measure => simp [intOf]; omega
        · by_cases h6 : x.k = 6
          · have HKK := qh h6
            clear h4 h5 h6
            have HN45 : Hid (¬ (x.k = 4 ∨ x.k = 5)) := qh (by rw [HKK.out]; omega)
            have HWA : Hid ((Lit.int .i64 x.t).wf = true) := qh (WalkArith.wf_i64 (by have := HKT.out; omega))
            have HWB : Hid ((Lit.int .i64 x.b).wf = true) := qh (WalkArith.wf_i64 (by have := HKB.out; omega))
            have HNCZ : Hid ((fun a q => C a q + came (out.take (k + 1)) a q) = qput Dk x.t x.b (Dk x.t x.b + 1)) := qh (by
              funext a q
              rw [HNC.out]
              unfold qput cameB
              rw [decide_eq_true (p := ¬ (x.k = 4 ∨ x.k = 5)) HN45.out, Bool.true_and]
              by_cases h1 : a = x.t
              · by_cases h2 : q = x.b
                · subst h1 h2; simp
                · rw [if_neg (c := a = x.t ∧ q = x.b) (fun e => h2 e.2), decide_eq_false (p := x.b = q) (fun e => h2 e.symm)]; simp
              · rw [if_neg (c := a = x.t ∧ q = x.b) (fun e => h1 e.1), decide_eq_false (p := x.t = a) (fun e => h1 e.symm)]; simp)
            have HRS : Hid (resp rf x = [bare 11 x.t (-1) x.b 0 0 false false]) := qh (by unfold resp; rw [if_neg HN45.out, if_pos HKK.out])
            go_wp2_with (first
              | ((with_reducible refine tt.load_na x _ g (off + k * 24) ?_ HR.out ?_); (rfl))
              | ((with_reducible refine tt.store_new x _ _ _ ?_ ?_ ?_ ?_); (rfl); (rfl); (rfl); obtain ⟨BX, hBX⟩ : ∃ B, wr.heap.size = B := ⟨_, rfl⟩; obtain ⟨wx, hwx⟩ : ∃ y, wr.alloc (.cells (na x) 31) = y := ⟨_, rfl⟩; have HGX : Hid (wr.grownBy wx none) := qh (by rw [← hwx]; exact grown_alloc (grown_refl _ _) _); have HBX : Hid (wx.heap[BX]? = some (.cells (na x) 31 (0, 0))) := qh (by rw [← hwx, ← hBX]; exact heap_alloc_new _ _); have HXL : Hid (wr.heap.size ≤ BX) := qh (Nat.le_of_eq hBX); obtain ⟨x0, _, x2, x3, _⟩ := note_cells (tt.range_of HBX.out); rw [Nat.zero_add] at x2 x3; rw [HKK.out] at x0; have HNB : Hid (na (bare 0 x.t (-1) x.b 0 0 false false) = _) := qh (tt.bare_na 0 x.t (-1) x.b 0 0 false false); rw [hwx, hBX]; clear hwx hBX)
              | ((with_reducible refine tt.store_lit _ _ HNB.out _ _ _ ?_ ?_ ?_ ?_); (rfl); (rfl); (rfl); obtain ⟨BY, hBY⟩ : ∃ B, wx.heap.size = B := ⟨_, rfl⟩; obtain ⟨wy, hwy⟩ : ∃ y, wx.alloc (.cells (na (bare 0 x.t (-1) x.b 0 0 false false)) 31) = y := ⟨_, rfl⟩; have hgy : wx.grownBy wy none := (by rw [← hwy]; exact grown_alloc (grown_refl _ _) _); have HGY := qh (grown_trans HGX.out hgy); have HBY : Hid (wy.heap[BY]? = some (.cells (na (bare 0 x.t (-1) x.b 0 0 false false)) 31 (0, 0))) := qh (by rw [← hwy, ← hBY]; exact heap_alloc_new _ _); have HYX := qh (row_up HBX.out hgy); have HYL : Hid (wr.heap.size ≤ BY ∧ BX ≠ BY) := qh (by have := HGX.out.size; have := lt_of HBX.out; omega); obtain ⟨y0, _, y2, y3, _⟩ := note_cells (tt.range_of HYX.out); rw [Nat.zero_add] at y2 y3; rw [HKK.out] at y0; rw [← HNB.out, hwy, hBY]; clear hwy hBY hgy x0 x2 x3 HNB)
              | ((with_reducible refine store_at _ _ 0 BY (.int .u8 11) (bare 0 x.t (-1) x.b 0 0 false false) (bare 11 x.t (-1) x.b 0 0 false false) HBY.out ?_ ?_ ?_ ?_ ?_ ?_); (rfl); (kernel_rfl); (rfl); (decide); (rfl); obtain ⟨wv, hwv⟩ : ∃ y, wy.setRow BY (na (bare 11 x.t (-1) x.b 0 0 false false)) = y := ⟨_, rfl⟩; have HGV : Hid (wr.grownBy wv none) := qh (by rw [← hwv]; exact en.grown_setRow HGY.out BY HYL.out.1 _); have HBV : Hid (wv.heap[BY]? = some (.cells (na (bare 11 x.t (-1) x.b 0 0 false false)) 31 (0, 0))) := qh (by rw [← hwv]; exact setRow_heap _ _ _ _ _ _ HBY.out); have HVX : Hid (wv.heap[BX]? = some (.cells (na x) 31 (0, 0))) := qh (by rw [← hwv]; exact (setRow_other _ _ _ _ HYL.out.2).trans HYX.out); rw [hwv]; clear hwv y0 y2 y3))
            obtain ⟨t', mm', HTT, hagg, hsize, hld⟩ := tt.named
            have HLD := qh hld
            have hfo := fold_note
            have hsz := tt.na_size
            clear hld
            rw [HTT.out]
            have HLV := qh (HL.out.grown HGV.out)
            refine wp_region_held_drew (S := fun w' => w'.heap[BY]? = some (.cells (na (bare 11 x.t (-1) x.b 0 0 false false)) 31 (0, 0)) ∧ w'.heap[BX]? = some (.cells (na x) 31 (0, 0))) (by kernel_rfl) ⟨HBV.out, HVX.out⟩ (fun hHeld => ?_)
            have HGD := qh (tt.grown_drew HGV.out)
            have HBD : Hid (wv.drew.heap[BY]? = some (.cells (na (bare 11 x.t (-1) x.b 0 0 false false)) 31 (0, 0)) ∧ wv.drew.heap[BX]? = some (.cells (na x) 31 (0, 0))) := qh ⟨HBV.out, HVX.out⟩
            generalize wv.drew = wd at hHeld HGD HBD ⊢
            have hc4 : wd.cell? ⟨fb, 1, none⟩ = some vk := cr (HL.out.grown HGD.out).blk 1 rfl
            refine hh.tl 0 ⟨some 59, Op.move (.tmp 0), _, _, _, _⟩ ?v61 rfl ?hy61 ?_
            case hy61 => ((intro w0 hSw; go_simp); try (with_reducible rfl))
            try simp only [lay]
            refine hh.tl 1 ⟨some 60, Op.move (.tmp 0), _, _, _, _⟩ ?v62 rfl ?hy62 ?_
            case hy62 => ((intro w0 hSw; go_simp); try (with_reducible rfl))
            try simp only [lay]
            refine hh.tl 2 ⟨some 61, Op.nilCheck (.tmp 60), _, _, _, _⟩ ?v63 rfl ?hy63 ?_
            case hy63 => ((intro w0 hSw; go_simp); try (with_reducible rfl))
            try simp only [lay]
            refine hh.tl 3 ⟨some 62, Op.fieldAddr 61 (.tmp 61) 1, _, _, _, _⟩ ?v64 rfl ?hy64 ?_
            case hy64 => ((intro w0 hSw; go_simp); try (with_reducible rfl))
            try simp only [lay]
            refine hh.tl 5 ⟨some 64, Op.load t' (.tmp 8), _, _, _, _⟩ ?v65 rfl ?hy65 ?_
            case hy65 => ((intro w0 hSw; have hs1 := HLD.out BY (bare 11 x.t (-1) x.b 0 0 false false) w0 (tt.range_of hSw.1); go_simp); try (with_reducible rfl))
            try simp only [lay]
            obtain ⟨wb, hwb⟩ : ∃ w', wd.alloc (.cells (na (bare 11 x.t (-1) x.b 0 0 false false)) 31) = w' := ⟨_, rfl⟩
            obtain ⟨BB, hBB⟩ : ∃ B, wd.heap.size = B := ⟨_, rfl⟩
            have hgb : wd.grownBy wb none := by rw [← hwb]; exact grown_alloc (grown_refl _ _) _
            have HGB := qh (grown_trans HGD.out hgb)
            have HBB : Hid (wb.heap[BB]? = some (.cells (na (bare 11 x.t (-1) x.b 0 0 false false)) 31 (0, 0))) := qh (by rw [← hwb, ← hBB]; exact heap_alloc_new _ _)
            have HSB : Hid (wb.heap[BY]? = some (.cells (na (bare 11 x.t (-1) x.b 0 0 false false)) 31 (0, 0)) ∧ wb.heap[BX]? = some (.cells (na x) 31 (0, 0))) := qh ⟨row_up HBD.out.1 hgb, row_up HBD.out.2 hgb⟩
            have hc5 : wb.cell? ⟨fb, 1, none⟩ = some vk := cr (HL.out.grown HGB.out).blk 1 rfl
            have HBW := qh hwb
            have HBS := qh hBB
            clear hwb hBB hgb
            refine wpAnyH_ready (rs := [4, 6]) (by kernel_rfl) (by simp) ?_
            refine AllReadyH.cons (o := ⟨some 63, Op.load 42 (.tmp 62), _, _, _, _⟩) rfl (fun K hK => ?_) (AllReadyH.cons (o := ⟨some 65, Op.buildSlice 42 1 #[(0, (.tmp 64))], _, _, _, _⟩) rfl (fun K hK => ?_) AllReadyH.nil)
            · skip
              go_simp
              refine hK.out _ _ HBD.out (fun hHeld => ?_)
              clear hK K
              try simp only [lay]
              refine rdo (i := 6) (o := ⟨some 65, Op.buildSlice 42 1 #[(0, (.tmp 64))], _, _, _, _⟩) rfl (fun K hK => ?_)
              go_simp
              rw [HBW.out, HBS.out]
              refine hK.out _ _ HSB.out (fun hHeld => ?_)
              clear hK K
              try simp only [lay]
              refine rdo (i := 7) (o := ⟨some 66, Op.call { callee := Callee.builtin Builtin.append, args := #[(.tmp 63), (.tmp 65)], argTypes := #[42, 42] }, _, _, _, _⟩) rfl (fun K hK => ?_)
              refine tt.step_append_sl rfl (Operand.tmp 63) (Operand.tmp 65) 42 42 rfl 31 24 i0 (.agg (na zn)) 112 Tryd.underlying42 hi hz0 hz1 hz2 tt.zn_cells vk wk.length (flat nt wk) rfl (HL.out.grown HGB.out).sl 1 (nt (bare 11 x.t (-1) x.b 0 0 false false)) (tt.src_one' _ BB (na (bare 11 x.t (-1) x.b 0 0 false false)) _ (nt (bare 11 x.t (-1) x.b 0 0 false false)) 24 Tryd.underlying42 HBB.out rfl (tt.nt_len _) (tt.nt_one _)) (by have := HWKL.out; unfold maxLen; omega) (by have := HWKL.out; omega) ?_
              intro v3 w3 hsl3 hgr3 hnx3
              obtain ⟨ad3, cap3, hv3⟩ := hsl3.form
              obtain ⟨n3, hn3⟩ : ∃ q, q = wk.length + 1 := ⟨_, rfl⟩
              rw [← hn3] at hv3
              have HN3 := qh hn3
              clear hn3
              subst hv3
              obtain ⟨⟨hc6, hf6⟩, hL3, hM3⟩ := HL.out.put HZ.out HFO.out HGB.out (snoc_sl hsl3) hgr3 hnx3
              have HB3 : Hid (w3.heap[BY]? = some (.cells (na (bare 11 x.t (-1) x.b 0 0 false false)) 31 (0, 0)) ∧ w3.heap[BX]? = some (.cells (na x) 31 (0, 0))) := qh ⟨(hgr3.block _ (lt_of HSB.out.1) (fun e => by have := HL.out.sl.lt _ e.symm; have := HYL.out.1; omega)).trans HSB.out.1, (hgr3.block _ (lt_of HSB.out.2) (fun e => by have := HL.out.sl.lt _ e.symm; have := HXL.out; omega)).trans HSB.out.2⟩
              have HL3 := qh hL3
              have HM3 := qh hM3
              clear hsl3 hgr3 hnx3 hL3 hM3
              refine hK.out _ _ HB3.out (fun hHeld => ?_)
              clear hK K
              try simp only [lay]
              refine hh.tl 8 ⟨some 67, Op.nilCheck (.tmp 59), _, _, _, _⟩ ?v66 rfl ?hy66 ?_
              case hy66 => ((intro w0 hSw; go_simp); try (with_reducible rfl))
              try simp only [lay]
              refine hh.tl 9 ⟨some 68, Op.fieldAddr 61 (.tmp 67) 1, _, _, _, _⟩ ?v67 rfl ?hy67 ?_
              case hy67 => ((intro w0 hSw; go_simp); try (with_reducible rfl))
              try simp only [lay]
              refine rdo (i := 10) (o := ⟨none, Op.store 42 (.tmp 68) (.tmp 66), _, _, _, _⟩) rfl (fun K hK => ?_)
              go_simp
              obtain ⟨wE, hwE⟩ : ∃ x, w3.setCell ⟨fb, 1, none⟩ (.slice ad3 n3 cap3) = x := ⟨_, rfl⟩
              have HBE : Hid (wE.heap[BY]? = some (.cells (na (bare 11 x.t (-1) x.b 0 0 false false)) 31 (0, 0)) ∧ wE.heap[BX]? = some (.cells (na x) 31 (0, 0))) := qh (by rw [← hwE]; exact ⟨(Below.heap_setCell _ _ _ _ (fun e => by have := HL.out.lt; have := HYL.out.1; dsimp only at e; omega)).trans HB3.out.1, (Below.heap_setCell _ _ _ _ (fun e => by have := HL.out.lt; have := HXL.out; dsimp only at e; omega)).trans HB3.out.2⟩)
              rw [hwE] at HL3 HM3 ⊢
              refine hK.out _ _ HBE.out (fun hHeld => ?_)
              clear hK K
              try simp only [lay]
              refine wpAnyH_done (by kernel_rfl) ?_ _
              clear hHeld hc4 hc5 hc6 hf6 hwE
              have HO3 := qh (HO.out.mv HL.out HM3.out)
              have HS3 := qh (HM3.out.sl HL.out HS.out HV.out)
              try rw [← HTT.out]
              go_wp2_with fail
              have HLQ := qh (HL3.out.grown (tt.grown_drew (grown_refl _ none)))
              have HBQ : Hid (wE.drew.heap[BX]? = some (.cells (na x) 31 (0, 0))) := qh HBE.out.2
              have HGQ : Hid (wE.grownBy wE.drew none) := qh (tt.grown_drew (grown_refl _ _))
              refine wp_region_held_drew (S := fun w' => w'.cell? ⟨fb, 3, none⟩ = some (.map (some qc)) ∧ w'.heap[BX]? = some (.cells (na x) 31 (0, 0))) (by kernel_rfl) ⟨cr HLQ.out.blk 3 rfl, HBQ.out⟩ (fun hHeld => ?_)
              generalize wE.drew = wq at hHeld HLQ HBQ HGQ ⊢
              obtain ⟨c0, st, w6, hme, hq6, hg6, hst⟩ := count_q HLQ.out.cam x.t x.b HKB.out.1 HWA.out HWB.out
              have hwy : IntKind.i64.wrap (Dk x.t x.b + 1) = Dk x.t x.b + 1 := IntWalk.i64_in _ (by have := HDB.out x.t x.b; omega)
              obtain ⟨w7, hes, hq7, hg7⟩ := hst (Dk x.t x.b + 1)
              have hlk5 := lookup_q HLQ.out.cam x.t x.b HWA.out HWB.out
              have hlk6 := lookup_q hq6 x.t x.b HWA.out HWB.out
              have hl6 := (HLQ.out.setC hq6 hg6).1
              have hg67 : wq.grownBy w7 (some qc) := grown_trans hg6 hg7
              obtain ⟨hl7, hm7⟩ := HLQ.out.setC hq7 hg67
              have hbx : ∀ w', wq.grownBy w' (some qc) → w'.heap[BX]? = some (.cells (na x) 31 (0, 0)) := fun w' hg => (hg.block _ (lt_of HBQ.out) (fun e => by have := HBQ.out; obtain ⟨es, ck, h1, _⟩ := HLQ.out.cam; rw [Option.some.inj e] at this; rw [h1] at this; cases this)).trans HBQ.out
              have HS6 : Hid (w6.cell? ⟨fb, 3, none⟩ = some (.map (some qc)) ∧ w6.heap[BX]? = some (.cells (na x) 31 (0, 0))) := qh ⟨cr hl6.blk 3 rfl, hbx w6 hg6⟩
              have HS7 : Hid (w7.cell? ⟨fb, 3, none⟩ = some (.map (some qc)) ∧ w7.heap[BX]? = some (.cells (na x) 31 (0, 0))) := qh ⟨cr hl7.blk 3 rfl, hbx w7 hg67⟩
              have HL7 := qh hl7
              have HM7 : Hid (Mv wE w7 fb qd qc (.slice ad3 n3 cap3) (.slice ad3 n3 cap3)) := qh ((Mv.of_grown _ _ _ _ HGQ.out).trans hm7)
              have HQ5 : Hid _ := qh hHeld
              clear hst hq6 hq7 hg6 hg7 hl6 hl7 hm7 hg67 hbx
              refine hh.tl 0 ⟨some 69, Op.move (.tmp 0), _, _, _, _⟩ ?v68 rfl ?hy68 ?_
              case hy68 => ((intro w0 hSw; go_simp); try (with_reducible rfl))
              try simp only [lay]
              refine hh.tl 1 ⟨some 70, Op.nilCheck (.tmp 69), _, _, _, _⟩ ?v69 rfl ?hy69 ?_
              case hy69 => ((intro w0 hSw; go_simp); try (with_reducible rfl))
              try simp only [lay]
              refine hh.tl 2 ⟨some 71, Op.fieldAddr 61 (.tmp 70) 3, _, _, _, _⟩ ?v70 rfl ?hy70 ?_
              case hy70 => ((intro w0 hSw; go_simp); try (with_reducible rfl))
              try simp only [lay]
              refine hh.tl 3 ⟨some 72, Op.load 59 (.tmp 71), _, _, _, _⟩ ?v71 rfl ?hy71 ?_
              case hy71 => ((intro w0 hSw; obtain ⟨hs1, hq2⟩ := hSw; obtain ⟨_, _, hs2, hs3, _⟩ := note_cells (tt.range_of hq2); rw [Nat.zero_add] at hs2 hs3; clear hq2; go_simp); try (with_reducible rfl))
              try simp only [lay]
              refine hh.tl 4 ⟨some 73, Op.fieldAddr 31 (.tmp 7) 2, _, _, _, _⟩ ?v72 rfl ?hy72 ?_
              case hy72 => ((intro w0 hSw; go_simp); try (with_reducible rfl))
              try simp only [lay]
              refine hh.tl 5 ⟨some 74, Op.load 3 (.tmp 73), _, _, _, _⟩ ?v73 rfl ?hy73 ?_
              case hy73 => ((intro w0 hSw; obtain ⟨hs1, hq2⟩ := hSw; obtain ⟨_, _, hs2, hs3, _⟩ := note_cells (tt.range_of hq2); rw [Nat.zero_add] at hs2 hs3; clear hq2; go_simp); try (with_reducible rfl))
              try simp only [lay]
              refine hh.tl 6 ⟨some 75, Op.fieldAddr 31 (.tmp 7) 3, _, _, _, _⟩ ?v74 rfl ?hy74 ?_
              case hy74 => ((intro w0 hSw; go_simp); try (with_reducible rfl))
              try simp only [lay]
              refine hh.tl 7 ⟨some 76, Op.load 3 (.tmp 75), _, _, _, _⟩ ?v75 rfl ?hy75 ?_
              case hy75 => ((intro w0 hSw; obtain ⟨hs1, hq2⟩ := hSw; obtain ⟨_, _, hs2, hs3, _⟩ := note_cells (tt.range_of hq2); rw [Nat.zero_add] at hs2 hs3; clear hq2; go_simp); try (with_reducible rfl))
              try simp only [lay]
              refine hh.tl 8 ⟨some 77, Op.build 65 #[(0, (.tmp 74)), (1, (.tmp 76))], _, _, _, _⟩ ?v76 rfl ?hy76 ?_
              case hy76 => ((intro w0 hSw; go_simp); try (with_reducible rfl))
              try simp only [lay]
              refine wpAnyH_ready (rs := [9, 11]) (by kernel_rfl) (by simp) ?_
              refine AllReadyH.cons (o := ⟨some 78, Op.lookup 59 (.tmp 72) (.tmp 77) false, _, _, _, _⟩) rfl (fun K hK => ?_) (AllReadyH.cons (o := ⟨some 80, Op.mapEntry 59 (.tmp 72) (.tmp 77), _, _, _, _⟩) rfl (fun K hK => ?_) AllReadyH.nil)
              · skip
                go_simp
                refine hK.out _ _ HQ5.out (fun hHeld => ?_)
                clear hK K
                try simp only [lay]
                refine hh.tl 10 ⟨some 79, Op.binOp BinOp.add 3 (.tmp 78) (.const (Value.int IntKind.i64 1)) _, _, _, _, _⟩ ?v77 rfl ?hy77 ?_
                case hy77 => ((intro w0 hSw; go_simp); try (with_reducible rfl))
                try simp only [lay]
                refine rdo (i := 11) (o := ⟨some 80, Op.mapEntry 59 (.tmp 72) (.tmp 77), _, _, _, _⟩) rfl (fun K hK => ?_)
                go_simp
                refine hK.out _ _ HS6.out (fun hHeld => ?_)
                clear hK K
                try simp only [lay]
                refine hh.tl 12 ⟨some 81, Op.extract (.tmp 80) 1, _, _, _, _⟩ ?v78 rfl ?hy78 ?_
                case hy78 => ((intro w0 hSw; go_simp); try (with_reducible rfl))
                try simp only [lay]
                refine rdo (i := 13) (o := ⟨none, Op.entryStore 59 (.tmp 72) (.tmp 81) (.tmp 79), _, _, _, _⟩) rfl (fun K hK => ?_)
                go_simp
                refine hK.out _ _ HS7.out (fun hHeld => ?_)
                clear hK K
                try simp only [lay]
                refine wpAnyH_done (by kernel_rfl) ?_ _
                clear hHeld hme hes hlk5 hlk6 hwy
                have HO7 := qh (HO3.out.mv HL3.out HM7.out)
                have HS7 := qh (HM7.out.sl HL3.out HS3.out.1 HS3.out.2)
                have HM8 := qh (HM3.out.trans HM7.out)
                go_wp2_with fail
                go_roundw
                case rel => exact ⟨k + 1, .slice ad3 n3 cap3, by omega, by go_num, HO7.out, by rw [HNW.out]; exact (by rw [HRS.out, HNCZ.out]; exact HL7.out), HS7.out.1, HS7.out.2, HMV.out.trans HM8.out⟩
                case measure => simp [intOf]; omega
              · skip
                go_simp
                refine hK.out _ _ HS6.out (fun hHeld => ?_)
                clear hK K
                try simp only [lay]
                refine hh.tl 12 ⟨some 81, Op.extract (.tmp 80) 1, _, _, _, _⟩ ?v79 rfl ?hy79 ?_
                case hy79 => ((intro w0 hSw; go_simp); try (with_reducible rfl))
                try simp only [lay]
                refine rdo (i := 9) (o := ⟨some 78, Op.lookup 59 (.tmp 72) (.tmp 77) false, _, _, _, _⟩) rfl (fun K hK => ?_)
                go_simp
                refine hK.out _ _ HS6.out (fun hHeld => ?_)
                clear hK K
                try simp only [lay]
                refine hh.tl 10 ⟨some 79, Op.binOp BinOp.add 3 (.tmp 78) (.const (Value.int IntKind.i64 1)) _, _, _, _, _⟩ ?v80 rfl ?hy80 ?_
                case hy80 => ((intro w0 hSw; go_simp); try (with_reducible rfl))
                try simp only [lay]
                refine rdo (i := 13) (o := ⟨none, Op.entryStore 59 (.tmp 72) (.tmp 81) (.tmp 79), _, _, _, _⟩) rfl (fun K hK => ?_)
                go_simp
                refine hK.out _ _ HS7.out (fun hHeld => ?_)
                clear hK K
                try simp only [lay]
                refine wpAnyH_done (by kernel_rfl) ?_ _
                clear hHeld hme hes hlk5 hlk6 hwy
                have HO7 := qh (HO3.out.mv HL3.out HM7.out)
                have HS7 := qh (HM7.out.sl HL3.out HS3.out.1 HS3.out.2)
                have HM8 := qh (HM3.out.trans HM7.out)
                go_wp2_with fail
                go_roundw
                case rel => exact ⟨k + 1, .slice ad3 n3 cap3, by omega, by go_num, HO7.out, by rw [HNW.out]; exact (by rw [HRS.out, HNCZ.out]; exact HL7.out), HS7.out.1, HS7.out.2, HMV.out.trans HM8.out⟩
                case measure => simp [intOf]; omega
            · skip
              go_simp
              rw [HBW.out, HBS.out]
              refine hK.out _ _ HSB.out (fun hHeld => ?_)
              clear hK K
              try simp only [lay]
              refine rdo (i := 4) (o := ⟨some 63, Op.load 42 (.tmp 62), _, _, _, _⟩) rfl (fun K hK => ?_)
              go_simp
              refine hK.out _ _ HSB.out (fun hHeld => ?_)
              clear hK K
              try simp only [lay]
              refine rdo (i := 7) (o := ⟨some 66, Op.call { callee := Callee.builtin Builtin.append, args := #[(.tmp 63), (.tmp 65)], argTypes := #[42, 42] }, _, _, _, _⟩) rfl (fun K hK => ?_)
              refine tt.step_append_sl rfl (Operand.tmp 63) (Operand.tmp 65) 42 42 rfl 31 24 i0 (.agg (na zn)) 112 Tryd.underlying42 hi hz0 hz1 hz2 tt.zn_cells vk wk.length (flat nt wk) rfl (HL.out.grown HGB.out).sl 1 (nt (bare 11 x.t (-1) x.b 0 0 false false)) (tt.src_one' _ BB (na (bare 11 x.t (-1) x.b 0 0 false false)) _ (nt (bare 11 x.t (-1) x.b 0 0 false false)) 24 Tryd.underlying42 HBB.out rfl (tt.nt_len _) (tt.nt_one _)) (by have := HWKL.out; unfold maxLen; omega) (by have := HWKL.out; omega) ?_
              intro v3 w3 hsl3 hgr3 hnx3
              obtain ⟨ad3, cap3, hv3⟩ := hsl3.form
              obtain ⟨n3, hn3⟩ : ∃ q, q = wk.length + 1 := ⟨_, rfl⟩
              rw [← hn3] at hv3
              have HN3 := qh hn3
              clear hn3
              subst hv3
              obtain ⟨⟨hc6, hf6⟩, hL3, hM3⟩ := HL.out.put HZ.out HFO.out HGB.out (snoc_sl hsl3) hgr3 hnx3
              have HB3 : Hid (w3.heap[BY]? = some (.cells (na (bare 11 x.t (-1) x.b 0 0 false false)) 31 (0, 0)) ∧ w3.heap[BX]? = some (.cells (na x) 31 (0, 0))) := qh ⟨(hgr3.block _ (lt_of HSB.out.1) (fun e => by have := HL.out.sl.lt _ e.symm; have := HYL.out.1; omega)).trans HSB.out.1, (hgr3.block _ (lt_of HSB.out.2) (fun e => by have := HL.out.sl.lt _ e.symm; have := HXL.out; omega)).trans HSB.out.2⟩
              have HL3 := qh hL3
              have HM3 := qh hM3
              clear hsl3 hgr3 hnx3 hL3 hM3
              refine hK.out _ _ HB3.out (fun hHeld => ?_)
              clear hK K
              try simp only [lay]
              refine hh.tl 8 ⟨some 67, Op.nilCheck (.tmp 59), _, _, _, _⟩ ?v81 rfl ?hy81 ?_
              case hy81 => ((intro w0 hSw; go_simp); try (with_reducible rfl))
              try simp only [lay]
              refine hh.tl 9 ⟨some 68, Op.fieldAddr 61 (.tmp 67) 1, _, _, _, _⟩ ?v82 rfl ?hy82 ?_
              case hy82 => ((intro w0 hSw; go_simp); try (with_reducible rfl))
              try simp only [lay]
              refine rdo (i := 10) (o := ⟨none, Op.store 42 (.tmp 68) (.tmp 66), _, _, _, _⟩) rfl (fun K hK => ?_)
              go_simp
              obtain ⟨wE, hwE⟩ : ∃ x, w3.setCell ⟨fb, 1, none⟩ (.slice ad3 n3 cap3) = x := ⟨_, rfl⟩
              have HBE : Hid (wE.heap[BY]? = some (.cells (na (bare 11 x.t (-1) x.b 0 0 false false)) 31 (0, 0)) ∧ wE.heap[BX]? = some (.cells (na x) 31 (0, 0))) := qh (by rw [← hwE]; exact ⟨(Below.heap_setCell _ _ _ _ (fun e => by have := HL.out.lt; have := HYL.out.1; dsimp only at e; omega)).trans HB3.out.1, (Below.heap_setCell _ _ _ _ (fun e => by have := HL.out.lt; have := HXL.out; dsimp only at e; omega)).trans HB3.out.2⟩)
              rw [hwE] at HL3 HM3 ⊢
              refine hK.out _ _ HBE.out (fun hHeld => ?_)
              clear hK K
              try simp only [lay]
              refine wpAnyH_done (by kernel_rfl) ?_ _
              clear hHeld hc4 hc5 hc6 hf6 hwE
              have HO3 := qh (HO.out.mv HL.out HM3.out)
              have HS3 := qh (HM3.out.sl HL.out HS.out HV.out)
              try rw [← HTT.out]
              go_wp2_with fail
              have HLQ := qh (HL3.out.grown (tt.grown_drew (grown_refl _ none)))
              have HBQ : Hid (wE.drew.heap[BX]? = some (.cells (na x) 31 (0, 0))) := qh HBE.out.2
              have HGQ : Hid (wE.grownBy wE.drew none) := qh (tt.grown_drew (grown_refl _ _))
              refine wp_region_held_drew (S := fun w' => w'.cell? ⟨fb, 3, none⟩ = some (.map (some qc)) ∧ w'.heap[BX]? = some (.cells (na x) 31 (0, 0))) (by kernel_rfl) ⟨cr HLQ.out.blk 3 rfl, HBQ.out⟩ (fun hHeld => ?_)
              generalize wE.drew = wq at hHeld HLQ HBQ HGQ ⊢
              obtain ⟨c0, st, w6, hme, hq6, hg6, hst⟩ := count_q HLQ.out.cam x.t x.b HKB.out.1 HWA.out HWB.out
              have hwy : IntKind.i64.wrap (Dk x.t x.b + 1) = Dk x.t x.b + 1 := IntWalk.i64_in _ (by have := HDB.out x.t x.b; omega)
              obtain ⟨w7, hes, hq7, hg7⟩ := hst (Dk x.t x.b + 1)
              have hlk5 := lookup_q HLQ.out.cam x.t x.b HWA.out HWB.out
              have hlk6 := lookup_q hq6 x.t x.b HWA.out HWB.out
              have hl6 := (HLQ.out.setC hq6 hg6).1
              have hg67 : wq.grownBy w7 (some qc) := grown_trans hg6 hg7
              obtain ⟨hl7, hm7⟩ := HLQ.out.setC hq7 hg67
              have hbx : ∀ w', wq.grownBy w' (some qc) → w'.heap[BX]? = some (.cells (na x) 31 (0, 0)) := fun w' hg => (hg.block _ (lt_of HBQ.out) (fun e => by have := HBQ.out; obtain ⟨es, ck, h1, _⟩ := HLQ.out.cam; rw [Option.some.inj e] at this; rw [h1] at this; cases this)).trans HBQ.out
              have HS6 : Hid (w6.cell? ⟨fb, 3, none⟩ = some (.map (some qc)) ∧ w6.heap[BX]? = some (.cells (na x) 31 (0, 0))) := qh ⟨cr hl6.blk 3 rfl, hbx w6 hg6⟩
              have HS7 : Hid (w7.cell? ⟨fb, 3, none⟩ = some (.map (some qc)) ∧ w7.heap[BX]? = some (.cells (na x) 31 (0, 0))) := qh ⟨cr hl7.blk 3 rfl, hbx w7 hg67⟩
              have HL7 := qh hl7
              have HM7 : Hid (Mv wE w7 fb qd qc (.slice ad3 n3 cap3) (.slice ad3 n3 cap3)) := qh ((Mv.of_grown _ _ _ _ HGQ.out).trans hm7)
              have HQ5 : Hid _ := qh hHeld
              clear hst hq6 hq7 hg6 hg7 hl6 hl7 hm7 hg67 hbx
              refine hh.tl 0 ⟨some 69, Op.move (.tmp 0), _, _, _, _⟩ ?v83 rfl ?hy83 ?_
              case hy83 => ((intro w0 hSw; go_simp); try (with_reducible rfl))
              try simp only [lay]
              refine hh.tl 1 ⟨some 70, Op.nilCheck (.tmp 69), _, _, _, _⟩ ?v84 rfl ?hy84 ?_
              case hy84 => ((intro w0 hSw; go_simp); try (with_reducible rfl))
              try simp only [lay]
              refine hh.tl 2 ⟨some 71, Op.fieldAddr 61 (.tmp 70) 3, _, _, _, _⟩ ?v85 rfl ?hy85 ?_
              case hy85 => ((intro w0 hSw; go_simp); try (with_reducible rfl))
              try simp only [lay]
              refine hh.tl 3 ⟨some 72, Op.load 59 (.tmp 71), _, _, _, _⟩ ?v86 rfl ?hy86 ?_
              case hy86 => ((intro w0 hSw; obtain ⟨hs1, hq2⟩ := hSw; obtain ⟨_, _, hs2, hs3, _⟩ := note_cells (tt.range_of hq2); rw [Nat.zero_add] at hs2 hs3; clear hq2; go_simp); try (with_reducible rfl))
              try simp only [lay]
              refine hh.tl 4 ⟨some 73, Op.fieldAddr 31 (.tmp 7) 2, _, _, _, _⟩ ?v87 rfl ?hy87 ?_
              case hy87 => ((intro w0 hSw; go_simp); try (with_reducible rfl))
              try simp only [lay]
              refine hh.tl 5 ⟨some 74, Op.load 3 (.tmp 73), _, _, _, _⟩ ?v88 rfl ?hy88 ?_
              case hy88 => ((intro w0 hSw; obtain ⟨hs1, hq2⟩ := hSw; obtain ⟨_, _, hs2, hs3, _⟩ := note_cells (tt.range_of hq2); rw [Nat.zero_add] at hs2 hs3; clear hq2; go_simp); try (with_reducible rfl))
              try simp only [lay]
              refine hh.tl 6 ⟨some 75, Op.fieldAddr 31 (.tmp 7) 3, _, _, _, _⟩ ?v89 rfl ?hy89 ?_
              case hy89 => ((intro w0 hSw; go_simp); try (with_reducible rfl))
              try simp only [lay]
              refine hh.tl 7 ⟨some 76, Op.load 3 (.tmp 75), _, _, _, _⟩ ?v90 rfl ?hy90 ?_
              case hy90 => ((intro w0 hSw; obtain ⟨hs1, hq2⟩ := hSw; obtain ⟨_, _, hs2, hs3, _⟩ := note_cells (tt.range_of hq2); rw [Nat.zero_add] at hs2 hs3; clear hq2; go_simp); try (with_reducible rfl))
              try simp only [lay]
              refine hh.tl 8 ⟨some 77, Op.build 65 #[(0, (.tmp 74)), (1, (.tmp 76))], _, _, _, _⟩ ?v91 rfl ?hy91 ?_
              case hy91 => ((intro w0 hSw; go_simp); try (with_reducible rfl))
              try simp only [lay]
              refine wpAnyH_ready (rs := [9, 11]) (by kernel_rfl) (by simp) ?_
              refine AllReadyH.cons (o := ⟨some 78, Op.lookup 59 (.tmp 72) (.tmp 77) false, _, _, _, _⟩) rfl (fun K hK => ?_) (AllReadyH.cons (o := ⟨some 80, Op.mapEntry 59 (.tmp 72) (.tmp 77), _, _, _, _⟩) rfl (fun K hK => ?_) AllReadyH.nil)
              · skip
                go_simp
                refine hK.out _ _ HQ5.out (fun hHeld => ?_)
                clear hK K
                try simp only [lay]
                refine hh.tl 10 ⟨some 79, Op.binOp BinOp.add 3 (.tmp 78) (.const (Value.int IntKind.i64 1)) _, _, _, _, _⟩ ?v92 rfl ?hy92 ?_
                case hy92 => ((intro w0 hSw; go_simp); try (with_reducible rfl))
                try simp only [lay]
                refine rdo (i := 11) (o := ⟨some 80, Op.mapEntry 59 (.tmp 72) (.tmp 77), _, _, _, _⟩) rfl (fun K hK => ?_)
                go_simp
                refine hK.out _ _ HS6.out (fun hHeld => ?_)
                clear hK K
                try simp only [lay]
                refine hh.tl 12 ⟨some 81, Op.extract (.tmp 80) 1, _, _, _, _⟩ ?v93 rfl ?hy93 ?_
                case hy93 => ((intro w0 hSw; go_simp); try (with_reducible rfl))
                try simp only [lay]
                refine rdo (i := 13) (o := ⟨none, Op.entryStore 59 (.tmp 72) (.tmp 81) (.tmp 79), _, _, _, _⟩) rfl (fun K hK => ?_)
                go_simp
                refine hK.out _ _ HS7.out (fun hHeld => ?_)
                clear hK K
                try simp only [lay]
                refine wpAnyH_done (by kernel_rfl) ?_ _
                clear hHeld hme hes hlk5 hlk6 hwy
                have HO7 := qh (HO3.out.mv HL3.out HM7.out)
                have HS7 := qh (HM7.out.sl HL3.out HS3.out.1 HS3.out.2)
                have HM8 := qh (HM3.out.trans HM7.out)
                go_wp2_with fail
                go_roundw
                case rel => exact ⟨k + 1, .slice ad3 n3 cap3, by omega, by go_num, HO7.out, by rw [HNW.out]; exact (by rw [HRS.out, HNCZ.out]; exact HL7.out), HS7.out.1, HS7.out.2, HMV.out.trans HM8.out⟩
                case measure => simp [intOf]; omega
              · skip
                go_simp
                refine hK.out _ _ HS6.out (fun hHeld => ?_)
                clear hK K
                try simp only [lay]
                refine hh.tl 12 ⟨some 81, Op.extract (.tmp 80) 1, _, _, _, _⟩ ?v94 rfl ?hy94 ?_
                case hy94 => ((intro w0 hSw; go_simp); try (with_reducible rfl))
                try simp only [lay]
                refine rdo (i := 9) (o := ⟨some 78, Op.lookup 59 (.tmp 72) (.tmp 77) false, _, _, _, _⟩) rfl (fun K hK => ?_)
                go_simp
                refine hK.out _ _ HS6.out (fun hHeld => ?_)
                clear hK K
                try simp only [lay]
                refine hh.tl 10 ⟨some 79, Op.binOp BinOp.add 3 (.tmp 78) (.const (Value.int IntKind.i64 1)) _, _, _, _, _⟩ ?v95 rfl ?hy95 ?_
                case hy95 => ((intro w0 hSw; go_simp); try (with_reducible rfl))
                try simp only [lay]
                refine rdo (i := 13) (o := ⟨none, Op.entryStore 59 (.tmp 72) (.tmp 81) (.tmp 79), _, _, _, _⟩) rfl (fun K hK => ?_)
                go_simp
                refine hK.out _ _ HS7.out (fun hHeld => ?_)
                clear hK K
                try simp only [lay]
                refine wpAnyH_done (by kernel_rfl) ?_ _
                clear hHeld hme hes hlk5 hlk6 hwy
                have HO7 := qh (HO3.out.mv HL3.out HM7.out)
                have HS7 := qh (HM7.out.sl HL3.out HS3.out.1 HS3.out.2)
                have HM8 := qh (HM3.out.trans HM7.out)
                go_wp2_with fail
                go_roundw
                case rel => exact ⟨k + 1, .slice ad3 n3 cap3, by omega, by go_num, HO7.out, by rw [HNW.out]; exact (by rw [HRS.out, HNCZ.out]; exact HL7.out), HS7.out.1, HS7.out.2, HMV.out.trans HM8.out⟩
                case measure => simp [intOf]; omega
          · have k4 : (x.k == 4) = false := by simpa using h4
            have k5 : (x.k == 5) = false := by simpa using h5
            have k6 : (x.k == 6) = false := by simpa using h6
            have HN45 : Hid (¬ (x.k = 4 ∨ x.k = 5)) := qh (fun e => e.elim h4 h5)
            have HN6 := qh h6
            clear h4 h5 h6
            have HWA : Hid ((Lit.int .i64 x.t).wf = true) := qh (WalkArith.wf_i64 (by have := HKT.out; omega))
            have HWB : Hid ((Lit.int .i64 x.b).wf = true) := qh (WalkArith.wf_i64 (by have := HKB.out; omega))
            have HNCZ : Hid ((fun a q => C a q + came (out.take (k + 1)) a q) = qput Dk x.t x.b (Dk x.t x.b + 1)) := qh (by
              funext a q
              rw [HNC.out]
              unfold qput cameB
              rw [decide_eq_true (p := ¬ (x.k = 4 ∨ x.k = 5)) HN45.out, Bool.true_and]
              by_cases h1 : a = x.t
              · by_cases h2 : q = x.b
                · subst h1 h2; simp
                · rw [if_neg (c := a = x.t ∧ q = x.b) (fun e => h2 e.2), decide_eq_false (p := x.b = q) (fun e => h2 e.symm)]; simp
              · rw [if_neg (c := a = x.t ∧ q = x.b) (fun e => h1 e.1), decide_eq_false (p := x.t = a) (fun e => h1 e.symm)]; simp)
            have HRS : Hid (resp rf x = []) := qh (by unfold resp; rw [if_neg HN45.out, if_neg HN6.out])
            go_wp2_with (first
              | ((with_reducible refine tt.load_na x _ g (off + k * 24) ?_ HR.out ?_); (rfl))
              | ((with_reducible refine tt.store_new x _ _ _ ?_ ?_ ?_ ?_); (rfl); (rfl); (rfl); obtain ⟨BX, hBX⟩ : ∃ B, wr.heap.size = B := ⟨_, rfl⟩; obtain ⟨wx, hwx⟩ : ∃ y, wr.alloc (.cells (na x) 31) = y := ⟨_, rfl⟩; have HGX : Hid (wr.grownBy wx none) := qh (by rw [← hwx]; exact grown_alloc (grown_refl _ _) _); have HBX : Hid (wx.heap[BX]? = some (.cells (na x) 31 (0, 0))) := qh (by rw [← hwx, ← hBX]; exact heap_alloc_new _ _); have HXL : Hid (wr.heap.size ≤ BX) := qh (Nat.le_of_eq hBX); obtain ⟨x0, _, x2, x3, _⟩ := note_cells (tt.range_of HBX.out); rw [Nat.zero_add] at x2 x3;  have HNB : Hid (na (bare 0 x.t (-1) x.b 0 0 false false) = _) := qh (tt.bare_na 0 x.t (-1) x.b 0 0 false false); rw [hwx, hBX]; clear hwx hBX)
              | ((with_reducible refine tt.store_lit _ _ HNB.out _ _ _ ?_ ?_ ?_ ?_); (rfl); (rfl); (rfl); obtain ⟨BY, hBY⟩ : ∃ B, wx.heap.size = B := ⟨_, rfl⟩; obtain ⟨wy, hwy⟩ : ∃ y, wx.alloc (.cells (na (bare 0 x.t (-1) x.b 0 0 false false)) 31) = y := ⟨_, rfl⟩; have hgy : wx.grownBy wy none := (by rw [← hwy]; exact grown_alloc (grown_refl _ _) _); have HGY := qh (grown_trans HGX.out hgy); have HBY : Hid (wy.heap[BY]? = some (.cells (na (bare 0 x.t (-1) x.b 0 0 false false)) 31 (0, 0))) := qh (by rw [← hwy, ← hBY]; exact heap_alloc_new _ _); have HYX := qh (row_up HBX.out hgy); have HYL : Hid (wr.heap.size ≤ BY ∧ BX ≠ BY) := qh (by have := HGX.out.size; have := lt_of HBX.out; omega); obtain ⟨y0, _, y2, y3, _⟩ := note_cells (tt.range_of HYX.out); rw [Nat.zero_add] at y2 y3;  rw [← HNB.out, hwy, hBY]; clear hwy hBY hgy x0 x2 x3 HNB))
            have HLY := qh (HL.out.grown HGY.out)
            clear y0 y2 y3
            have HLQ := qh (HLY.out.grown (tt.grown_drew (grown_refl _ none)))
            have HBQ : Hid (wy.drew.heap[BX]? = some (.cells (na x) 31 (0, 0))) := qh HYX.out
            have HGQ : Hid (wy.grownBy wy.drew none) := qh (tt.grown_drew (grown_refl _ _))
            refine wp_region_held_drew (S := fun w' => w'.cell? ⟨fb, 3, none⟩ = some (.map (some qc)) ∧ w'.heap[BX]? = some (.cells (na x) 31 (0, 0))) (by kernel_rfl) ⟨cr HLQ.out.blk 3 rfl, HBQ.out⟩ (fun hHeld => ?_)
            generalize wy.drew = wq at hHeld HLQ HBQ HGQ ⊢
            obtain ⟨c0, st, w6, hme, hq6, hg6, hst⟩ := count_q HLQ.out.cam x.t x.b HKB.out.1 HWA.out HWB.out
            have hwy : IntKind.i64.wrap (Dk x.t x.b + 1) = Dk x.t x.b + 1 := IntWalk.i64_in _ (by have := HDB.out x.t x.b; omega)
            obtain ⟨w7, hes, hq7, hg7⟩ := hst (Dk x.t x.b + 1)
            have hlk5 := lookup_q HLQ.out.cam x.t x.b HWA.out HWB.out
            have hlk6 := lookup_q hq6 x.t x.b HWA.out HWB.out
            have hl6 := (HLQ.out.setC hq6 hg6).1
            have hg67 : wq.grownBy w7 (some qc) := grown_trans hg6 hg7
            obtain ⟨hl7, hm7⟩ := HLQ.out.setC hq7 hg67
            have hbx : ∀ w', wq.grownBy w' (some qc) → w'.heap[BX]? = some (.cells (na x) 31 (0, 0)) := fun w' hg => (hg.block _ (lt_of HBQ.out) (fun e => by have := HBQ.out; obtain ⟨es, ck, h1, _⟩ := HLQ.out.cam; rw [Option.some.inj e] at this; rw [h1] at this; cases this)).trans HBQ.out
            have HS6 : Hid (w6.cell? ⟨fb, 3, none⟩ = some (.map (some qc)) ∧ w6.heap[BX]? = some (.cells (na x) 31 (0, 0))) := qh ⟨cr hl6.blk 3 rfl, hbx w6 hg6⟩
            have HS7 : Hid (w7.cell? ⟨fb, 3, none⟩ = some (.map (some qc)) ∧ w7.heap[BX]? = some (.cells (na x) 31 (0, 0))) := qh ⟨cr hl7.blk 3 rfl, hbx w7 hg67⟩
            have HL7 := qh hl7
            have HM7 : Hid (Mv wy w7 fb qd qc vk vk) := qh ((Mv.of_grown _ _ _ _ HGQ.out).trans hm7)
            have HQ5 : Hid _ := qh hHeld
            clear hst hq6 hq7 hg6 hg7 hl6 hl7 hm7 hg67 hbx
            refine hh.tl 0 ⟨some 22, Op.move (.tmp 0), _, _, _, _⟩ ?v96 rfl ?hy96 ?_
            case hy96 => ((intro w0 hSw; go_simp); try (with_reducible rfl))
            try simp only [lay]
            refine hh.tl 1 ⟨some 23, Op.nilCheck (.tmp 22), _, _, _, _⟩ ?v97 rfl ?hy97 ?_
            case hy97 => ((intro w0 hSw; go_simp); try (with_reducible rfl))
            try simp only [lay]
            refine hh.tl 2 ⟨some 24, Op.fieldAddr 61 (.tmp 23) 3, _, _, _, _⟩ ?v98 rfl ?hy98 ?_
            case hy98 => ((intro w0 hSw; go_simp); try (with_reducible rfl))
            try simp only [lay]
            refine hh.tl 3 ⟨some 25, Op.load 59 (.tmp 24), _, _, _, _⟩ ?v99 rfl ?hy99 ?_
            case hy99 => ((intro w0 hSw; obtain ⟨hs1, hq2⟩ := hSw; obtain ⟨_, _, hs2, hs3, _⟩ := note_cells (tt.range_of hq2); rw [Nat.zero_add] at hs2 hs3; clear hq2; go_simp); try (with_reducible rfl))
            try simp only [lay]
            refine hh.tl 4 ⟨some 26, Op.fieldAddr 31 (.tmp 7) 2, _, _, _, _⟩ ?v100 rfl ?hy100 ?_
            case hy100 => ((intro w0 hSw; go_simp); try (with_reducible rfl))
            try simp only [lay]
            refine hh.tl 5 ⟨some 27, Op.load 3 (.tmp 26), _, _, _, _⟩ ?v101 rfl ?hy101 ?_
            case hy101 => ((intro w0 hSw; obtain ⟨hs1, hq2⟩ := hSw; obtain ⟨_, _, hs2, hs3, _⟩ := note_cells (tt.range_of hq2); rw [Nat.zero_add] at hs2 hs3; clear hq2; go_simp); try (with_reducible rfl))
            try simp only [lay]
            refine hh.tl 6 ⟨some 28, Op.fieldAddr 31 (.tmp 7) 3, _, _, _, _⟩ ?v102 rfl ?hy102 ?_
            case hy102 => ((intro w0 hSw; go_simp); try (with_reducible rfl))
            try simp only [lay]
            refine hh.tl 7 ⟨some 29, Op.load 3 (.tmp 28), _, _, _, _⟩ ?v103 rfl ?hy103 ?_
            case hy103 => ((intro w0 hSw; obtain ⟨hs1, hq2⟩ := hSw; obtain ⟨_, _, hs2, hs3, _⟩ := note_cells (tt.range_of hq2); rw [Nat.zero_add] at hs2 hs3; clear hq2; go_simp); try (with_reducible rfl))
            try simp only [lay]
            refine hh.tl 8 ⟨some 30, Op.build 65 #[(0, (.tmp 27)), (1, (.tmp 29))], _, _, _, _⟩ ?v104 rfl ?hy104 ?_
            case hy104 => ((intro w0 hSw; go_simp); try (with_reducible rfl))
            try simp only [lay]
            refine wpAnyH_ready (rs := [9, 11]) (by kernel_rfl) (by simp) ?_
            refine AllReadyH.cons (o := ⟨some 31, Op.lookup 59 (.tmp 25) (.tmp 30) false, _, _, _, _⟩) rfl (fun K hK => ?_) (AllReadyH.cons (o := ⟨some 33, Op.mapEntry 59 (.tmp 25) (.tmp 30), _, _, _, _⟩) rfl (fun K hK => ?_) AllReadyH.nil)
            · skip
              go_simp
              refine hK.out _ _ HQ5.out (fun hHeld => ?_)
              clear hK K
              try simp only [lay]
              refine hh.tl 10 ⟨some 32, Op.binOp BinOp.add 3 (.tmp 31) (.const (Value.int IntKind.i64 1)) _, _, _, _, _⟩ ?v105 rfl ?hy105 ?_
              case hy105 => ((intro w0 hSw; go_simp); try (with_reducible rfl))
              try simp only [lay]
              refine rdo (i := 11) (o := ⟨some 33, Op.mapEntry 59 (.tmp 25) (.tmp 30), _, _, _, _⟩) rfl (fun K hK => ?_)
              go_simp
              refine hK.out _ _ HS6.out (fun hHeld => ?_)
              clear hK K
              try simp only [lay]
              refine hh.tl 12 ⟨some 34, Op.extract (.tmp 33) 1, _, _, _, _⟩ ?v106 rfl ?hy106 ?_
              case hy106 => ((intro w0 hSw; go_simp); try (with_reducible rfl))
              try simp only [lay]
              refine rdo (i := 13) (o := ⟨none, Op.entryStore 59 (.tmp 25) (.tmp 34) (.tmp 32), _, _, _, _⟩) rfl (fun K hK => ?_)
              go_simp
              refine hK.out _ _ HS7.out (fun hHeld => ?_)
              clear hK K
              try simp only [lay]
              refine wpAnyH_done (by kernel_rfl) ?_ _
              clear hHeld hme hes hlk5 hlk6 hwy
              have HM8 : Hid (Mv wr w7 fb qd qc vk vk) := qh ((Mv.of_grown _ _ _ _ HGY.out).trans HM7.out)
              have HO7 := qh (HO.out.mv HL.out HM8.out)
              have HS7 := qh (HM8.out.sl HL.out HS.out HV.out)
              go_wp2_with fail
              go_roundw
              case rel => exact ⟨k + 1, vk, by omega, by go_num, HO7.out, by rw [HNW.out]; exact (by rw [HRS.out, HNCZ.out, List.append_nil]; exact HL7.out), HS7.out.1, HS7.out.2, HMV.out.trans HM8.out⟩
              case measure => simp [intOf]; omega
            · skip
              go_simp
              refine hK.out _ _ HS6.out (fun hHeld => ?_)
              clear hK K
              try simp only [lay]
              refine hh.tl 12 ⟨some 34, Op.extract (.tmp 33) 1, _, _, _, _⟩ ?v107 rfl ?hy107 ?_
              case hy107 => ((intro w0 hSw; go_simp); try (with_reducible rfl))
              try simp only [lay]
              refine rdo (i := 9) (o := ⟨some 31, Op.lookup 59 (.tmp 25) (.tmp 30) false, _, _, _, _⟩) rfl (fun K hK => ?_)
              go_simp
              refine hK.out _ _ HS6.out (fun hHeld => ?_)
              clear hK K
              try simp only [lay]
              refine hh.tl 10 ⟨some 32, Op.binOp BinOp.add 3 (.tmp 31) (.const (Value.int IntKind.i64 1)) _, _, _, _, _⟩ ?v108 rfl ?hy108 ?_
              case hy108 => ((intro w0 hSw; go_simp); try (with_reducible rfl))
              try simp only [lay]
              refine rdo (i := 13) (o := ⟨none, Op.entryStore 59 (.tmp 25) (.tmp 34) (.tmp 32), _, _, _, _⟩) rfl (fun K hK => ?_)
              go_simp
              refine hK.out _ _ HS7.out (fun hHeld => ?_)
              clear hK K
              try simp only [lay]
              refine wpAnyH_done (by kernel_rfl) ?_ _
              clear hHeld hme hes hlk5 hlk6 hwy
              have HM8 : Hid (Mv wr w7 fb qd qc vk vk) := qh ((Mv.of_grown _ _ _ _ HGY.out).trans HM7.out)
              have HO7 := qh (HO.out.mv HL.out HM8.out)
              have HS7 := qh (HM8.out.sl HL.out HS.out HV.out)
              go_wp2_with fail
              go_roundw
              case rel => exact ⟨k + 1, vk, by omega, by go_num, HO7.out, by rw [HNW.out]; exact (by rw [HRS.out, HNCZ.out, List.append_nil]; exact HL7.out), HS7.out.1, HS7.out.2, HMV.out.trans HM8.out⟩
              case measure => simp [intOf]; omega
    · have hke : k = lo := by omega
      have HE : Hid (out.take k = out) := qh (List.take_of_length_le (by have := HLO.out; omega))
      rw [HE.out] at HL
      clear hk HE hke
      go_wp2_with fail
      refine bodyPost_end (results_none rfl _ _ _) rfl ?_
      exact ⟨⟨_, rfl⟩, vk, HO.out, HL.out, HMV.out⟩
end Go.Proofs.YtenhdijbcdkfbaaDoor.hh
