/-
  The document's own Backs: where they lie, what their Has, Len, Find, Kill, Drop, Put answer, what is there behind them: definitions and contracts. No condition but what each theorem names.
-/
import Derived.Test.YtoifeinkaaclmaaDoorBkL
import Derived.Test.YtoifeinkaaclmaaDoorPr
namespace Go.Proofs.YtoifeinkaaclmaaDoor.bk
open Go Go.ChangeShapes Go.WideShapes Go.ChangeAt Go.RowKit
open Go.Proofs.YtoifeinkaaclmaaDoor.tt (Cfg Tab CfgAt cfg_at hb_bounds eql29k U zd row tyne add_lit lt_of range_grown heap_setCells_other setCells_rest grown_setCells grown_setRow grown_new grown_drewN below_of grown_alloc grown_refl grown_trans grown_drew Sl Pool Turn Next flat flat_len flat_at heap_setCells)
set_option linter.unusedVariables false
set_option maxRecDepth 1000000

/-- One element of a slice was written, cell behind cell. -/
theorem sl_put {α : Type} {f : α → List Value} {s : Nat} (hf : ∀ x, (f x).length = s) (hs : 0 < s) {w : World} {e : TypeId} {g off cap n : Nat} {xs : List α} (h : Sl w e s (.slice (some ⟨g, off, none⟩) n cap) xs.length (flat f xs)) {b : Nat} (hb : b < xs.length) (x : α) :
    Sl (w.setCells g (off + b * s) (f x)) e s (.slice (some ⟨g, off, none⟩) n cap) (xs.set b x).length (flat f (xs.set b x)) ∧ w.grownBy (w.setCells g (off + b * s) (f x)) (some g) := by
  refine ⟨?_, grown_setCells w g _ _⟩
  rcases h with ⟨e1, _⟩ | ⟨g', off', cap', cur, e1, hcur, h1, h2, h3, h4, h5⟩
  · cases e1
  cases e1
  have hbc : b * s + s ≤ cap * s := by
    have := Nat.mul_le_mul_right s (show b + 1 ≤ cap by omega)
    rwa [Nat.succ_mul] at this
  obtain ⟨cur', q1, q2, q3, q4⟩ := heap_setCells g e (f x) (off + b * s) w cur hcur (by rw [hf]; omega)
  refine .inr ⟨g, off, cap, cur', by rw [List.length_set], q1, by rw [flat_len hf], by rw [List.length_set]; exact h2, h3, by omega, fun k y hk => ?_⟩
  have hk' : k < (xs.set b x).length * s := by rw [← flat_len hf]; exact (List.getElem?_eq_some_iff.1 hk).1
  have hd : k / s < (xs.set b x).length := (Nat.div_lt_iff_lt_mul hs).2 hk'
  have hm : k % s < s := Nat.mod_lt _ hs
  have hkk : k / s * s + k % s = k := Nat.div_add_mod' k s
  obtain ⟨z, hz⟩ : ∃ z, (xs.set b x)[k / s]? = some z := ⟨_, List.getElem?_eq_getElem hd⟩
  obtain ⟨u, hu⟩ : ∃ u, (f z)[k % s]? = some u := ⟨_, List.getElem?_eq_getElem (by rw [hf]; exact hm)⟩
  have hyu := flat_at hf _ _ z _ u hz hu
  rw [hkk, hk] at hyu
  cases hyu
  by_cases hkb : k / s = b
  · have hzx : z = x := by rw [hkb, List.getElem?_set_self hb] at hz; exact (Option.some.inj hz).symm
    subst hzx
    have := q4 (k % s) y hu
    rw [hkb] at hkk
    rw [show off + b * s + k % s = off + k by omega] at this
    exact this
  · rw [List.getElem?_set_ne (fun e => hkb e.symm)] at hz
    have hfar : off + k < off + b * s ∨ off + b * s + (f x).length ≤ off + k := by
      rw [hf]
      rcases Nat.lt_or_gt_of_ne hkb with hl | hl
      · have := Nat.mul_le_mul_right s (show k / s + 1 ≤ b from hl)
        rw [Nat.succ_mul] at this
        omega
      · have := Nat.mul_le_mul_right s (show b + 1 ≤ k / s from hl)
        rw [Nat.succ_mul] at this
        omega
    rw [q3 (off + k) hfar]
    refine h5 k y ?_
    have := flat_at hf _ _ z _ y hz hu
    rwa [hkk] at this
/-- One cell of an element of a slice was written. -/
theorem sl_cell {α : Type} {f : α → List Value} {s : Nat} (hf : ∀ x, (f x).length = s) (hs : 0 < s) {w : World} {e : TypeId} {g off cap n : Nat} {xs : List α} (h : Sl w e s (.slice (some ⟨g, off, none⟩) n cap) xs.length (flat f xs)) {b : Nat} {y : α} (hy : xs[b]? = some y) {i : Nat} (hi : i < s) {v : Value} (x : α) (hx : f x = (f y).set i v) :
    Sl (w.setCell ⟨g, off + b * s + i, none⟩ v) e s (.slice (some ⟨g, off, none⟩) n cap) (xs.set b x).length (flat f (xs.set b x)) ∧ w.grownBy (w.setCell ⟨g, off + b * s + i, none⟩ v) (some g) := by
  have hb : b < xs.length := (List.getElem?_eq_some_iff.1 hy).1
  refine ⟨?_, grown_setCells w g (off + b * s + i) [v]⟩
  rcases h with ⟨e1, _⟩ | ⟨g', off', cap', cur, e1, hcur, h1, h2, h3, h4, h5⟩
  · cases e1
  cases e1
  have hbc : b * s + s ≤ cap * s := by
    have := Nat.mul_le_mul_right s (show b + 1 ≤ cap by omega)
    rwa [Nat.succ_mul] at this
  obtain ⟨cur', q1, q2, q3, q4⟩ := heap_setCells g e [v] (off + b * s + i) w cur hcur (by simp; omega)
  refine .inr ⟨g, off, cap, cur', by rw [List.length_set], q1, by rw [flat_len hf], by rw [List.length_set]; exact h2, h3, by omega, fun k u hk => ?_⟩
  have hk' : k < (xs.set b x).length * s := by rw [← flat_len hf]; exact (List.getElem?_eq_some_iff.1 hk).1
  have hd : k / s < (xs.set b x).length := (Nat.div_lt_iff_lt_mul hs).2 hk'
  have hm : k % s < s := Nat.mod_lt _ hs
  have hkk : k / s * s + k % s = k := Nat.div_add_mod' k s
  obtain ⟨z, hz⟩ : ∃ z, (xs.set b x)[k / s]? = some z := ⟨_, List.getElem?_eq_getElem hd⟩
  obtain ⟨u', hu⟩ : ∃ u, (f z)[k % s]? = some u := ⟨_, List.getElem?_eq_getElem (by rw [hf]; exact hm)⟩
  have hyu := flat_at hf _ _ z _ u' hz hu
  rw [hkk, hk] at hyu
  cases hyu
  by_cases hkb : k / s = b
  · have hzx : z = x := by rw [hkb, List.getElem?_set_self hb] at hz; exact (Option.some.inj hz).symm
    subst hzx
    rw [hkb] at hkk
    rw [hx] at hu
    by_cases hki : k % s = i
    · rw [hki, List.getElem?_set_self (by rw [hf]; exact hi)] at hu
      have := q4 0 v rfl
      rw [show off + b * s + i + 0 = off + k by omega] at this
      rw [this]; exact hu
    · rw [List.getElem?_set_ne (fun e => hki e.symm)] at hu
      rw [q3 (off + k) (by simp; omega)]
      have := h5 _ _ (flat_at hf _ _ y _ u hy hu)
      rw [hkk] at this
      exact this
  · rw [List.getElem?_set_ne (fun e => hkb e.symm)] at hz
    have hfar : off + k < off + b * s + i ∨ off + b * s + i + [v].length ≤ off + k := by
      simp only [List.length_singleton]
      rcases Nat.lt_or_gt_of_ne hkb with hl | hl
      · have := Nat.mul_le_mul_right s (show k / s + 1 ≤ b from hl)
        rw [Nat.succ_mul] at this
        omega
      · have := Nat.mul_le_mul_right s (show b + 1 ≤ k / s from hl)
        rw [Nat.succ_mul] at this
        omega
    rw [q3 (off + k) hfar]
    refine h5 k u ?_
    have := flat_at hf _ _ z _ u hz hu
    rwa [hkk] at this

/-- What the document keeps of a block. -/
structure Rb where
  i : Bool
  l : Bool
  d : List Int
  hd : d.length = 16
def rt (x : Rb) : List Value := .bool x.i :: .bool x.l :: x.d.map U
def ra (x : Rb) : Array Value := (rt x).toArray
theorem rt_len (x : Rb) : (rt x).length = 18 := by simp [rt, x.hd]
theorem ra_size (x : Rb) : (ra x).size = 18 := by simp [ra, rt_len]
theorem rt_one (x : Rb) : ∀ v ∈ rt x, v.oneCell' = true := by
  intro v hv
  simp [rt, U] at hv
  rcases hv with rfl | rfl | ⟨y, _, rfl⟩ <;> rfl
def rof (o : Option Bk) : Rb := match o with | some x => ⟨true, x.l, x.d, x.hd⟩ | none => ⟨false, false, zd, rfl⟩
theorem rof_i (o : Option Bk) : (rof o).i = o.isSome := by cases o <;> rfl
theorem rof_l (o : Option Bk) : (rof o).l = fl o := by cases o <;> rfl
theorem rof_d (o : Option Bk) : (rof o).d = fd o := by cases o <;> rfl
/-- The document's table, of what is there. -/
def tab (N : Nat) (ns : List Bk) : List Rb := (List.range N).map fun (k : Nat) => rof (look ns (k : Int))
theorem tab_len (N : Nat) (ns : List Bk) : (tab N ns).length = N := by simp [tab]
theorem tab_get {N : Nat} (ns : List Bk) {k : Nat} (h : k < N) : (tab N ns)[k]? = some (rof (look ns (k : Int))) := by
  unfold tab
  rw [List.getElem?_map, List.getElem?_range h]; rfl
theorem tab_set {N : Nat} {ns ns' : List Bk} {b : Nat} (hb : b < N) (h : ∀ c : Nat, c ≠ b → look ns' (c : Int) = look ns (c : Int)) : tab N ns' = (tab N ns).set b (rof (look ns' (b : Int))) := by
  apply List.ext_getElem?
  intro k
  by_cases hk : k < N
  · by_cases hkb : k = b
    · subst hkb
      rw [tab_get ns' hk, List.getElem?_set_self (by rw [tab_len]; exact hk)]
    · rw [tab_get ns' hk, List.getElem?_set_ne (fun e => hkb e.symm), tab_get ns hk, h k hkb]
  · rw [List.getElem?_eq_none (by rw [tab_len]; omega), List.getElem?_eq_none (by rw [List.length_set, tab_len]; omega)]
theorem tab_same {N : Nat} {ns ns' : List Bk} (h : ∀ c : Nat, look ns' (c : Int) = look ns (c : Int)) : tab N ns' = tab N ns := by
  unfold tab
  congr 1
  funext k
  rw [h k]
/-- As many are there as the row has. -/
theorem tab_count {N : Nat} {ns : List Bk} (h : Nd ns) (hr : Rg (N : Int) ns) : (tab N ns).countP (·.i) = ns.length := by
  have h1 : (tab N ns).countP (·.i) = ((List.range N).filter fun (k : Nat) => (look ns (k : Int)).isSome).length := by
    unfold tab
    rw [List.countP_map, List.countP_eq_length_filter]
    congr 1
    apply List.filter_congr
    intro k _
    show (rof (look ns (k : Int))).i = _
    rw [rof_i]
  have h2 : (ns.map fun x => x.b.toNat).Nodup := by
    unfold Nd at h
    unfold List.Nodup at *
    rw [List.pairwise_map] at h ⊢
    refine List.Pairwise.imp_of_mem ?_ h
    intro x y hx hy hne e
    have := hr x hx
    have := hr y hy
    exact hne (by omega)
  have h3 : ((List.range N).filter fun (k : Nat) => (look ns (k : Int)).isSome).Perm (ns.map fun x => x.b.toNat) := by
    rw [List.perm_ext_iff_of_nodup (List.nodup_range.filter _) h2]
    intro k
    simp only [List.mem_filter, List.mem_range, List.mem_map]
    constructor
    · rintro ⟨hk, hs⟩
      obtain ⟨x, hx⟩ := Option.isSome_iff_exists.1 hs
      exact ⟨x, look_mem hx, by have := look_b hx; omega⟩
    · rintro ⟨x, hx, rfl⟩
      have hb := hr x hx
      have hl := look_some_of_mem h hx
      refine ⟨by omega, ?_⟩
      rw [show ((x.b.toNat : Nat) : Int) = x.b by omega, hl]; rfl
  rw [h1, h3.length_eq, List.length_map]
theorem out_none {n : Int} {ns : List Bk} {b : Int} (h : Rg n ns) (hb : b < 0 ∨ n ≤ b) : look ns b = none := by
  rw [look_none_iff]
  intro x hx e
  have := h x hx
  omega

/-- Where the document's Backs lie: the struct in block r, the table in block g. -/
structure RAt (w : World) (r g N m : Nat) (ns : List Bk) : Prop where
  blk : w.heap[r]? = some (.cells #[.slice (some ⟨g, 0, none⟩) N N, .int .i64 (m : Int)] 70 (0, 0))
  sl : Sl w 72 18 (.slice (some ⟨g, 0, none⟩) N N) (tab N ns).length (flat rt (tab N ns))
section
variable {w w' : World} {r g N m : Nat} {ns ns' : List Bk}
theorem RAt.typ (h : RAt w r g N m ns) : ∃ cur, w.heap[g]? = some (.cells cur 72 (0, 0)) := h.sl.type g rfl
theorem RAt.of_block (h : RAt w r g N m ns) (h1 : w'.heap[r]? = w.heap[r]?) (h2 : w'.heap[g]? = w.heap[g]?) : RAt w' r g N m ns :=
  ⟨h1.trans h.blk, h.sl.of_block fun k e => by simp [Value.ownBlock] at e; subst e; exact h2⟩
theorem RAt.grown (h : RAt w r g N m ns) (hg : w.grownBy w' none) : RAt w' r g N m ns := by
  obtain ⟨cur, hc⟩ := h.typ
  exact h.of_block (hg.block r (lt_of h.blk) (by simp)) (hg.block g (lt_of hc) (by simp))
theorem RAt.c0 (h : RAt w r g N m ns) : w.cell? ⟨r, 0, none⟩ = some (.slice (some ⟨g, 0, none⟩) N N) := by simp [World.cell?, h.blk]
theorem RAt.c1 (h : RAt w r g N m ns) : w.cell? ⟨r, 1, none⟩ = some (.int .i64 (m : Int)) := by simp [World.cell?, h.blk]
theorem RAt.at_ (h : RAt w r g N m ns) {k : Nat} (hk : k < N) : w.rangeAt g (k * 18) (rt (rof (look ns (k : Int)))) := fun j v hv => by
  have hx := flat_at rt_len (tab N ns) k _ j v (tab_get ns hk) hv
  obtain ⟨g', off, ha, _, hc⟩ := h.sl.cellAt _ _ hx
  cases ha
  have := hc _ _ hx
  rwa [Nat.zero_add] at this
theorem RAt.ci (h : RAt w r g N m ns) {k : Nat} (hk : k < N) : w.cell? ⟨g, k * 18, none⟩ = some (.bool (look ns (k : Int)).isSome) := by
  have := h.at_ hk 0 _ rfl
  rwa [Nat.add_zero, rof_i] at this
theorem RAt.cl (h : RAt w r g N m ns) {k : Nat} (hk : k < N) : w.cell? ⟨g, k * 18 + 1, none⟩ = some (.bool (fl (look ns (k : Int)))) := by
  have := h.at_ hk 1 _ rfl
  rwa [rof_l] at this
theorem RAt.cd (h : RAt w r g N m ns) {k : Nat} (hk : k < N) : w.rangeAt g (k * 18 + 2) ((fd (look ns (k : Int))).map U) := fun j v hv => by
  have := h.at_ hk (2 + j) v (by rw [Nat.add_comm]; simp only [rt, List.getElem?_cons_succ]; rw [rof_d]; exact hv)
  rwa [Nat.add_assoc]
theorem RAt.frozen (h : RAt w r g N m ns) (j : Nat) : w.frozen? ⟨g, j, none⟩ = false := by
  obtain ⟨cur, hc⟩ := h.typ
  exact frozen_of_row _ _ _ _ _ hc
/-- A block's back was written. -/
theorem RAt.put (h : RAt w r g N m ns) {b : Nat} (hb : b < N) (hn : ∀ c : Nat, c ≠ b → look ns' (c : Int) = look ns (c : Int)) : RAt (w.setCells g (b * 18) (rt (rof (look ns' (b : Int))))) r g N m ns' ∧ w.grownBy (w.setCells g (b * 18) (rt (rof (look ns' (b : Int))))) (some g) := by
  obtain ⟨cur, hc⟩ := h.typ
  obtain ⟨hs, hg⟩ := sl_put rt_len (by decide) h.sl (b := b) (by rw [tab_len]; exact hb) (rof (look ns' (b : Int)))
  rw [Nat.zero_add, ← tab_set hb hn] at hs
  rw [Nat.zero_add] at hg
  exact ⟨⟨(hg.block r (lt_of h.blk) (fun e => tyne h.blk hc (by decide) (Option.some.inj e))).trans h.blk, hs⟩, hg⟩
/-- That a block's back is live was written. -/
theorem RAt.live (h : RAt w r g N m ns) {b : Nat} (hb : b < N) (hn : ∀ c : Nat, c ≠ b → look ns' (c : Int) = look ns (c : Int)) (hi : (look ns' (b : Int)).isSome = (look ns (b : Int)).isSome) (hd : fd (look ns' (b : Int)) = fd (look ns (b : Int))) :
    RAt (w.setCell ⟨g, b * 18 + 1, none⟩ (.bool (fl (look ns' (b : Int))))) r g N m ns' ∧ w.grownBy (w.setCell ⟨g, b * 18 + 1, none⟩ (.bool (fl (look ns' (b : Int))))) (some g) := by
  obtain ⟨cur, hc⟩ := h.typ
  obtain ⟨hs, hg⟩ := sl_cell rt_len (by decide) h.sl (b := b) (tab_get ns hb) (i := 1) (by decide) (v := .bool (fl (look ns' (b : Int)))) (rof (look ns' (b : Int))) (by
    unfold rt
    rw [rof_i, rof_i, rof_l, rof_d, rof_d, hi, hd]; rfl)
  rw [Nat.zero_add, ← tab_set hb hn] at hs
  rw [Nat.zero_add] at hg
  exact ⟨⟨(hg.block r (lt_of h.blk) (fun e => tyne h.blk hc (by decide) (Option.some.inj e))).trans h.blk, hs⟩, hg⟩
/-- Nothing was written. -/
theorem RAt.same (h : RAt w r g N m ns) (hn : ∀ c : Nat, look ns' (c : Int) = look ns (c : Int)) : RAt w r g N m ns' := ⟨h.blk, by rw [tab_same hn]; exact h.sl⟩
end

section
variable {w : World} {r g N m : Nat} {ns : List Bk} (H : RAt w r g N m ns)
include H
set_option maxHeartbeats 1000000 in
theorem rhas_any (hR : Rg (N : Int) ns) (b : Int) : Calls Tryd.prog 38 #[.pointer (some ⟨r, 0, none⟩), .int .i64 b] w fun e w' => e = .returned (.bool (look ns b).isSome) ∧ w = w' := by
  have hc := H.c0
  by_cases h0 : b < 0
  · rw [out_none hR (.inl h0)]
    clear H hR
    go_enter Tryd.func38, Tryd.ntmps38
    go_wp2
    go_ret
    exact ⟨rfl, rfl⟩
  · have hb0 : 0 ≤ b := by omega
    by_cases h1 : (N : Int) ≤ b
    · rw [out_none hR (.inr h1)]
      have hbd : decide (b < (N : Int)) = false := by simp; omega
      clear H hR h0
      go_enter Tryd.func38, Tryd.ntmps38
      go_wp2
      go_ret
      exact ⟨rfl, rfl⟩
    · obtain ⟨k, rfl⟩ : ∃ k : Nat, b = (k : Int) := ⟨b.toNat, by omega⟩
      have hk : k < N := by omega
      have hci := H.ci hk
      have hbd : decide ((k : Int) < (N : Int)) = true := by simp; omega
      generalize (look ns (k : Int)).isSome = IS at hci ⊢
      clear H hR h0 h1
      go_enter Tryd.func38, Tryd.ntmps38
      go_wp2
      go_ret
      exact ⟨rfl, rfl⟩
set_option maxHeartbeats 1000000 in
theorem rlen_any (hN : N ≤ 256) (hI : Nd ns) (hR : Rg (N : Int) ns) : Calls Tryd.prog 24 #[.pointer (some ⟨r, 0, none⟩)] w fun e w' => e = .returned (.int .i64 (ns.length : Int)) ∧ w = w' := by
  have hc := H.c0
  have HC : Hid (∀ k, k < N → w.cell? ⟨g, k * 18, none⟩ = some (.bool (look ns (k : Int)).isSome)) := Lib.hid fun k hk => H.ci hk
  have HCT := Lib.hid (tab_count hI hR)
  have HN := Lib.hid hN
  clear H hI hR
  go_enter Tryd.func24, Tryd.ntmps24
  go_wp2
  go_loopw [4, 3] (fun i n wr => ∃ j q : Nat, j ≤ N ∧ q ≤ j ∧ i = .int .i64 (j : Int) ∧ n = .int .i64 (q : Int) ∧ q = ((tab N ns).take j).countP (·.i) ∧ wr = w) (fun i _ _ => N - (intOf i).toNat)
  case atStart => exact ⟨0, 0, Nat.zero_le _, Nat.le_refl _, rfl, rfl, rfl, rfl⟩
  case round =>
    obtain ⟨j, q, hj, hqj, rfl, rfl, hq, rfl⟩ := hrel
    have HQ := Lib.hid hq
    clear hq
    have hjN : j ≤ 256 := by omega
    by_cases hlt : j < N
    · have hci := HC.out j hlt
      have htk : (tab N ns).take (j + 1) = (tab N ns).take j ++ [rof (look ns (j : Int))] := by rw [List.take_add_one, tab_get ns hlt]; rfl
      have HT := Lib.hid htk
      clear htk
      cases hs : (look ns (j : Int)).isSome with
      | true =>
        rw [hs] at hci
        have HS := Lib.hid hs
        clear hs
        go_wp2
        go_roundw
        case rel => exact ⟨j + 1, q + 1, by omega, by omega, by go_num, by go_num, by rw [HT.out, List.countP_append, ← HQ.out]; simp [rof_i, HS.out], by simp⟩
        case measure => simp [intOf]; omega
      | false =>
        rw [hs] at hci
        have HS := Lib.hid hs
        clear hs
        go_wp2
        go_roundw
        case rel => exact ⟨j + 1, q, by omega, by omega, by go_num, by go_num, by rw [HT.out, List.countP_append, ← HQ.out]; simp [rof_i, HS.out], by simp⟩
        case measure => simp [intOf]; omega
    · go_wp2
      go_ret
      refine ⟨?_, rfl⟩
      have h1 := HQ.out
      rw [List.take_of_length_le (by rw [tab_len]; omega), HCT.out] at h1
      rw [h1]
      rfl
end
end Go.Proofs.YtoifeinkaaclmaaDoor.bk
