/-
  What the calls on Backs come to as plain data; Backs that were made since a world began; what calls on none answer: definitions and contracts. Condition: for New the table of bounds lies in its variable as the program's text has it.
-/
import Derived.Test.YtoifeinkaaclmaaDoorBkD
namespace Go.Proofs.YtoifeinkaaclmaaDoor.bk
open Go Go.ChangeShapes Go.WideShapes Go.ChangeAt Go.RowKit
open Go.Proofs.YtoifeinkaaclmaaDoor.tt (Cfg Tab CfgAt cfg_at U zd row tyne add_lit lt_of range_grown grown_setCells grown_setRow grown_new grown_drewN below_of grown_alloc grown_refl grown_trans grown_drew Sl Pool Turn Next flat)
set_option linter.unusedVariables false
set_option maxRecDepth 1000000

/-- No block is there twice. -/
def Nd (ns : List Bk) : Prop := (ns.map (·.b)).Nodup
theorem nd_nil : Nd [] := List.nodup_nil
theorem look_some_of_mem {ns : List Bk} {x : Bk} (h : Nd ns) (hx : x ∈ ns) : look ns x.b = some x := by
  induction ns with
  | nil => cases hx
  | cons y r ih =>
    unfold Nd at h
    rw [List.map_cons, List.nodup_cons] at h
    unfold look at ih ⊢
    rw [List.find?_cons]
    rcases List.mem_cons.1 hx with rfl | hx
    · simp
    · have : (y.b == x.b) = false := by
        simp only [beq_eq_false_iff_ne, ne_eq]
        intro e
        exact h.1 (e ▸ List.mem_map_of_mem hx)
      rw [this]
      exact ih h.2 hx
theorem look_none_iff {ns : List Bk} {b : Int} : look ns b = none ↔ ∀ x ∈ ns, x.b ≠ b := by
  unfold look
  rw [List.find?_eq_none]
  simp
theorem mem_rem {ns : List Bk} {b : Int} {x : Bk} (h : x ∈ rem ns b) : x ∈ ns := List.mem_of_mem_eraseP h
theorem nd_rem {ns : List Bk} (b : Int) (h : Nd ns) : Nd (rem ns b) := by
  unfold Nd rem at *
  exact List.Nodup.sublist ((List.eraseP_sublist).map _) h
theorem rem_gone {ns : List Bk} {b : Int} (h : Nd ns) : ∀ x ∈ rem ns b, x.b ≠ b := by
  induction ns with
  | nil => intro x hx; cases hx
  | cons y r ih =>
    unfold Nd at h
    rw [List.map_cons, List.nodup_cons] at h
    intro x hx
    unfold rem at hx ih
    by_cases hy : y.b = b
    · rw [List.eraseP_cons_of_pos (by simp [hy])] at hx
      intro e
      exact h.1 (hy ▸ e ▸ List.mem_map_of_mem hx)
    · rw [List.eraseP_cons_of_neg (by simp [hy])] at hx
      rcases List.mem_cons.1 hx with rfl | hx
      · exact hy
      · exact ih h.2 x hx
theorem look_rem {ns : List Bk} (b c : Int) (h : Nd ns) : look (rem ns b) c = if c = b then none else look ns c := by
  by_cases hc : c = b
  · rw [if_pos hc, look_none_iff, hc]; exact rem_gone h
  · rw [if_neg hc]
    cases hl : look ns c with
    | none =>
      rw [look_none_iff] at hl ⊢
      exact fun x hx => hl x (mem_rem hx)
    | some x =>
      have hb := look_b hl
      have hm := look_mem hl
      have hr : x ∈ rem ns b := by
        unfold rem
        exact (List.mem_eraseP_of_neg (by simp; rw [hb]; exact hc)).2 hm
      have := look_some_of_mem (nd_rem b h) hr
      rwa [hb] at this
theorem look_app (ns : List Bk) (x : Bk) (c : Int) : look (ns ++ [x]) c = (look ns c).or (if x.b = c then some x else none) := by
  unfold look
  rw [List.find?_append]
  congr 1
  by_cases h : x.b = c <;> simp [h]
theorem nd_app {ns : List Bk} {x : Bk} (h : Nd ns) (hx : look ns x.b = none) : Nd (ns ++ [x]) := by
  rw [look_none_iff] at hx
  unfold Nd at *
  rw [List.map_append, List.nodup_append]
  refine ⟨h, by simp, ?_⟩
  intro a ha b hb e
  simp at hb
  obtain ⟨y, hy, rfl⟩ := List.mem_map.1 ha
  exact hx y hy (e.trans hb)
theorem dead_b (x : Bk) : (dead x).b = x.b := rfl
theorem look_kills {ns : List Bk} (b c : Int) (h : Nd ns) : look (kills ns b) c = if c = b then (look ns b).map dead else look ns c := by
  unfold kills
  cases hl : look ns b with
  | none =>
    by_cases hc : c = b
    · rw [if_pos hc, hc]; simpa using hl
    · rw [if_neg hc]
  | some x =>
    have hb := look_b hl
    simp only
    rw [look_app, look_rem b c h, dead_b]
    by_cases hc : c = b
    · subst hc; simp [hb]
    · rw [if_neg hc, if_neg hc, if_neg (fun e => hc (by rw [← e, hb]))]; simp
theorem nd_kills {ns : List Bk} (b : Int) (h : Nd ns) : Nd (kills ns b) := by
  unfold kills
  cases hl : look ns b with
  | none => exact h
  | some x =>
    refine nd_app (nd_rem b h) ?_
    rw [dead_b, look_rem b _ h, if_pos (look_b hl)]
theorem kills_len (ns : List Bk) (b : Int) : (kills ns b).length = ns.length := by
  unfold kills
  cases hl : look ns b with
  | none => rfl
  | some x => have := rem_len hl; simp; omega

/-- What Put answers, what is there behind it. -/
def putE (n : Int) (m : Nat) (ns : List Bk) (b : Int) : Int := if b < 0 ∨ n ≤ b then 2 else if (look ns b).isSome = true then 8 else if ns.length = m then 7 else 0
def puts (n : Int) (m : Nat) (ns : List Bk) (b : Int) (d : List Int) (hd : d.length = 16) : List Bk := if putE n m ns b = 0 then ns ++ [fresh b d hd] else ns
theorem putE_zero {n : Int} {m : Nat} {ns : List Bk} {b : Int} : putE n m ns b = 0 ↔ (0 ≤ b ∧ b < n) ∧ look ns b = none ∧ ns.length ≠ m := by
  unfold putE
  by_cases h1 : b < 0 ∨ n ≤ b
  · rw [if_pos h1]; constructor
    · intro h; cases h
    · rintro ⟨h, _⟩; omega
  · rw [if_neg h1]
    by_cases h2 : (look ns b).isSome = true
    · rw [if_pos h2]; constructor
      · intro h; cases h
      · rintro ⟨_, h, _⟩; rw [h] at h2; cases h2
    · rw [if_neg h2]
      by_cases h3 : ns.length = m
      · rw [if_pos h3]; constructor
        · intro h; cases h
        · rintro ⟨_, _, h⟩; exact absurd h3 h
      · rw [if_neg h3]
        exact ⟨fun _ => ⟨by omega, by simpa using h2, h3⟩, fun _ => rfl⟩
theorem look_puts (n : Int) (m : Nat) (ns : List Bk) (b c : Int) (d : List Int) (hd : d.length = 16) : look (puts n m ns b d hd) c = if putE n m ns b = 0 ∧ c = b then some (fresh b d hd) else look ns c := by
  unfold puts
  by_cases h : putE n m ns b = 0
  · rw [if_pos h, look_app]
    obtain ⟨_, h2, _⟩ := putE_zero.1 h
    by_cases hc : c = b
    · subst hc; simp [h, h2, fresh]
    · simp [hc, fresh, show ¬ b = c from fun e => hc e.symm]
  · rw [if_neg h, if_neg (fun e => h e.1)]
theorem nd_puts (n : Int) (m : Nat) {ns : List Bk} (b : Int) (d : List Int) (hd : d.length = 16) (h : Nd ns) : Nd (puts n m ns b d hd) := by
  unfold puts
  by_cases h0 : putE n m ns b = 0
  · rw [if_pos h0]; exact nd_app h (putE_zero.1 h0).2.1
  · rw [if_neg h0]; exact h

section
variable (t p : Nat) (v : Value) (n : Int) (m : Nat) (ns : List Bk) (w : World) (H : BkAt w t p v n m ns)
include H
theorem put_any (b : Int) (d : List Int) (hd : d.length = 16) : Calls Tryd.prog 11 #[.pointer (some ⟨t, 0, none⟩), .int .i64 b, .agg (row d)] w fun e w' => e = .returned (.int .i64 (putE n m ns b)) ∧ ∃ v', BkAt w' t p v' n m (puts n m ns b d hd) ∧ Turn w w' p v v' := by
  unfold puts
  by_cases h1 : b < 0 ∨ n ≤ b
  · have he : putE n m ns b = 2 := by unfold putE; rw [if_pos h1]
    rw [he, if_neg (by decide)]
    refine (put_bad t p v n m ns w H b d hd h1).mono ?_
    rintro e w' ⟨rfl, hg⟩
    exact ⟨rfl, v, H.grown hg, Turn.of_grown p v hg⟩
  · rcases ff_look ns b with ⟨h2, hff⟩ | ⟨k, x, h2, hff, _, _⟩
    · by_cases h3 : ns.length = m
      · have he : putE n m ns b = 7 := by unfold putE; rw [if_neg h1, h2, if_neg (by decide), if_pos h3]
        rw [he, if_neg (by decide)]
        refine put_gen t p v n m ns w H b d hd (by omega) (by omega) hff 7 ns H.len fun w' hg => (pput_full p v m ns _ w' (H.grown hg).pool h3 H.room).mono ?_
        rintro e w'' ⟨rfl, hg2⟩
        exact ⟨rfl, v, (H.grown (grown_trans hg hg2)).pool, Turn.of_grown p v hg2⟩
      · have he : putE n m ns b = 0 := by unfold putE; rw [if_neg h1, h2, if_neg (by decide), if_neg h3]
        rw [he, if_pos rfl]
        exact put_gen t p v n m ns w H b d hd (by omega) (by omega) hff 0 _ (by have := H.len; simp; omega) fun w' hg => pput_ok p v m ns _ w' (H.grown hg).pool (by have := H.len; omega) H.room
    · have he : putE n m ns b = 8 := by unfold putE; rw [if_neg h1, h2]; simp
      rw [he, if_neg (by decide)]
      refine (put_there t p v n m ns w H b d hd (by omega) (by omega) k hff).mono ?_
      rintro e w' ⟨rfl, hg⟩
      exact ⟨rfl, v, H.grown hg, Turn.of_grown p v hg⟩
end

/-- Backs that were made since w, in the world w'. -/
structure Own (w w' : World) (t p : Nat) (v : Value) (n : Int) (m : Nat) (ns : List Bk) : Prop where
  bk : BkAt w' t p v n m ns
  old : w.grownBy w' none
  hp : w.heap.size ≤ p
  hv : ∀ k, v.ownBlock = some k → w.heap.size ≤ k
section
variable {w w1 w2 : World} {t p : Nat} {v v' : Value} {n : Int} {m : Nat} {ns ns' : List Bk}
theorem Own.grown (h : Own w w1 t p v n m ns) (hg : w1.grownBy w2 none) : Own w w2 t p v n m ns := ⟨h.bk.grown hg, grown_trans h.old hg, h.hp, h.hv⟩
theorem old_turn (h : w.grownBy w1 none) (hp : w.heap.size ≤ p) (hv : ∀ k, v.ownBlock = some k → w.heap.size ≤ k) (hT : Turn w1 w2 p v v') : w.grownBy w2 none :=
  ⟨hT.os.trans h.os, hT.tape.trans h.tape, hT.output.trans h.output, Nat.le_trans h.size hT.size, fun k hk _ => (hT.block k (Nat.lt_of_lt_of_le hk h.size) (by omega) (fun e => by have := hv k e.symm; omega)).trans (h.block k hk (by simp))⟩
theorem Own.turn (h : Own w w1 t p v n m ns) (hT : Turn w1 w2 p v v') (hB : BkAt w2 t p v' n m ns') : Own w w2 t p v' n m ns' :=
  ⟨hB, old_turn h.old h.hp h.hv hT, h.hp, hT.next.ge h.old.size h.hv⟩
theorem Own.from {w0 : World} (h : Own w w1 t p v n m ns) (hg : w0.grownBy w none) : Own w0 w1 t p v n m ns := ⟨h.bk, grown_trans hg h.old, Nat.le_trans hg.size h.hp, fun k e => Nat.le_trans hg.size (h.hv k e)⟩
theorem own_new (c : Cfg) (m : Nat) (w : World) (hT : Tab w) (hm : c.may) (hba : c.ba = (m : Int)) (h1 : 1 ≤ m) (h2 : m ≤ 65536) : Calls Tryd.prog 8 #[.agg c.cells] w fun e w' => ∃ t p, e = .returned (.tuple #[.pointer (some ⟨t, 0, none⟩), .int .i64 0]) ∧ Own w w' t p (.slice none 0 0) c.data m [] := by
  refine (new_yes c m w hT hm hba h1 h2).mono ?_
  rintro e w' ⟨t, p, rfl, hB, _, hp, hg⟩
  exact ⟨t, p, rfl, hB, hg, hp, fun k hk => by simp [Value.ownBlock] at hk⟩
theorem own_find (h : Own w w1 t p v n m ns) (b : Int) : Calls Tryd.prog 13 #[.pointer (some ⟨t, 0, none⟩), .int .i64 b] w1 fun e w2 => e = .returned (.tuple #[.agg (row (fd (look ns b))), .bool (fl (look ns b)), .bool (look ns b).isSome]) ∧ ∃ v', Own w w2 t p v' n m ns ∧ Turn w1 w2 p v v' :=
  (find_any t p v n m ns w1 h.bk b).mono fun e w2 ⟨he, v', hB, hT⟩ => ⟨he, v', h.turn hT hB, hT⟩
theorem own_put (h : Own w w1 t p v n m ns) (b : Int) (d : List Int) (hd : d.length = 16) : Calls Tryd.prog 11 #[.pointer (some ⟨t, 0, none⟩), .int .i64 b, .agg (row d)] w1 fun e w2 => e = .returned (.int .i64 (putE n m ns b)) ∧ ∃ v', Own w w2 t p v' n m (puts n m ns b d hd) ∧ Turn w1 w2 p v v' :=
  (put_any t p v n m ns w1 h.bk b d hd).mono fun e w2 ⟨he, v', hB, hT⟩ => ⟨he, v', h.turn hT hB, hT⟩
theorem own_kill (h : Own w w1 t p v n m ns) (b : Int) : Calls Tryd.prog 12 #[.pointer (some ⟨t, 0, none⟩), .int .i64 b] w1 fun e w2 => e = .returned (.bool (fl (look ns b))) ∧ ∃ v', Own w w2 t p v' n m (kills ns b) ∧ Turn w1 w2 p v v' :=
  (kill_any t p v n m ns w1 h.bk b).mono fun e w2 ⟨he, v', hB, hT⟩ => ⟨he, v', h.turn hT hB, hT⟩
theorem own_drop (h : Own w w1 t p v n m ns) (b : Int) : Calls Tryd.prog 14 #[.pointer (some ⟨t, 0, none⟩), .int .i64 b] w1 fun e w2 => e = .returned (.bool (look ns b).isSome) ∧ ∃ v', Own w w2 t p v' n m (rem ns b) ∧ Turn w1 w2 p v v' :=
  (drop_any t p v n m ns w1 h.bk b).mono fun e w2 ⟨he, v', hB, hT⟩ => ⟨he, v', h.turn hT hB, hT⟩
end

section
variable {w : World} {ops : Array Oper} {rest : List Oper} {a : Act} {Q : Exit → Act → World → Prop} {dst : Option Tmp} {ty : TypeId} {pos : String} {after : Array Edge}
theorem infoRa (d : List Int) (hd : d.length = 16) : (Tryd.prog.info? 33).map (·.size) = some (row d).size := by
  rw [infoR d hd]; simp [row]
theorem row_one (d : List Int) : (row d).all (·.oneCell') = true := all_oneCell_toArray fun v hv => by
  obtain ⟨x, _, rfl⟩ := List.mem_map.1 hv; rfl
theorem range_row {w : World} {g : Nat} {d : List Int} {t : TypeId} (h : w.heap[g]? = some (.cells (row d) t (0, 0))) : w.rangeAt g 0 (d.map U) := fun j v hv => by
  rw [Nat.zero_add, cell_of_row _ _ j _ _ _ h]
  simpa [row] using hv
/-- A block out of a variable, into one. -/
theorem load_row (d : List Int) (hd : d.length = 16) (x : Tmp) (g : Nat) (hx : a.eval (.tmp x) = .pointer (some ⟨g, 0, none⟩)) (hg : w.rangeAt g 0 (d.map U))
    (h : wpList Tryd.prog ops Q rest (a.put dst (.agg (row d))) w) : wpList Tryd.prog ops Q (⟨dst, .load 33 (.tmp x), ty, pos, after, none⟩ :: rest) a w :=
  wpList_load_mid rfl 33 (.tmp x) rfl g 0 hx (d.map U) _ hg Tryd.underlying33 rfl (infoR d hd) h
theorem store_row (d : List Int) (hd : d.length = 16) (A c : Array Value) (hA : row d = A) (x y : Tmp) (g : Nat) (hx : a.eval (.tmp x) = .pointer (some ⟨g, 0, none⟩)) (hy : a.eval (.tmp y) = .agg A) (hg : w.heap[g]? = some (.cells c 33 (0, 0))) (hc : c.size = 16)
    (h : wpList Tryd.prog ops Q rest (a.put dst undef) (w.setRow g (row d))) : wpList Tryd.prog ops Q (⟨dst, .store 33 (.tmp x) (.tmp y), ty, pos, after, none⟩ :: rest) a w := by
  subst hA
  exact wpList_store_row rfl 33 (.tmp x) (.tmp y) rfl g (row d) hx hy 33 _ hg (infoRa d hd) (by rw [hc]; simp [row, hd]) (row_one d) h
theorem store_rown (d : List Int) (hd : d.length = 16) (A c : Array Value) (hA : row d = A) (x y : Tmp) (hx : a.eval (.tmp x) = .pointer (some ⟨w.heap.size, 0, none⟩)) (hy : a.eval (.tmp y) = .agg A) (hc : c.size = 16)
    (h : wpList Tryd.prog ops Q rest (a.put dst undef) (w.alloc (.cells (row d) 33))) : wpList Tryd.prog ops Q (⟨dst, .store 33 (.tmp x) (.tmp y), ty, pos, after, none⟩ :: rest) a (w.alloc (.cells c 33)) := by
  subst hA
  refine wpList_store_row rfl 33 (.tmp x) (.tmp y) rfl w.heap.size (row d) hx hy 33 _ (heap_alloc_new _ _) (infoRa d hd) (by rw [hc]; simp [row, hd]) (row_one d) ?_
  rw [World.setRow_alloc_new]; exact h
end

set_option maxHeartbeats 1000000
theorem take_nil (b : Int) (w : World) : Calls Tryd.prog 31 #[.pointer none, .int .i64 b] w fun e w' => e = .returned (.tuple #[.agg (ba zb), .bool false]) ∧ w.grownBy w' none := by
  obtain ⟨w2, hw, hg2, hb2, hs2⟩ := onez w
  have hz : ba zb = _ := zb_ba
  have hz2 := hz
  rw [hz] at hw
  have HB2 := Lib.hid hb2
  have HG2 := Lib.hid hg2
  have HZ := Lib.hid hz2
  clear hz hz2 hg2 hb2 hs2
  go_enter Tryd.func31, Tryd.ntmps31
  go_wp2_with ((with_reducible refine store_any zb _ _ _ w.heap.size ?_ ?_ HB2.out ?_ ?_); (rfl); (exact congrArg Value.agg HZ.out.symm); (rfl))
  exact ret_bte rfl _ zb _ w.heap.size _ _ (by rfl) (by rfl) (range_of (setRow_heap _ _ _ _ _ _ HB2.out)) ⟨rfl, grown_setRow HG2.out _ (Nat.le_refl _) _⟩
theorem drop_nil (b : Int) (w : World) : Calls Tryd.prog 14 #[.pointer none, .int .i64 b] w fun e w' => e = .returned (.bool false) ∧ w.grownBy w' none := by
  have HT := Lib.hid (take_nil b w)
  go_enter Tryd.func14, Tryd.ntmps14
  go_wp2_with (first
    | (go_at_call 31; ((with_reducible refine HT.out.mono ?_); rintro e w1 ⟨rfl, hg⟩; have HG1 := Lib.hid hg; clear hg))
    | ((with_reducible refine store_new zb _ _ _ ?_ ?_ ?_ ?_); (rfl); (rfl); (rfl)))
  go_ret
  exact ⟨rfl, grown_alloc HG1.out _⟩
theorem kill_nil (b : Int) (w : World) : Calls Tryd.prog 12 #[.pointer none, .int .i64 b] w fun e w' => e = .returned (.bool false) ∧ w.grownBy w' none := by
  have HT := Lib.hid (take_nil b w)
  go_enter Tryd.func12, Tryd.ntmps12
  go_wp2_with (first
    | (go_at_call 31; ((with_reducible refine HT.out.mono ?_); rintro e w1 ⟨rfl, hg⟩; have HG1 := Lib.hid hg; clear hg))
    | ((with_reducible refine store_new zb _ _ _ ?_ ?_ ?_ ?_); (rfl); (rfl); (rfl)))
  go_ret
  exact ⟨rfl, grown_alloc HG1.out _⟩
theorem len_nil (w : World) : Calls Tryd.prog 16 #[.pointer none] w fun e w' => e = .returned (.int .i64 0) ∧ w = w' := by
  go_enter Tryd.func16, Tryd.ntmps16
  go_wp2
  go_ret
  exact ⟨rfl, rfl⟩
theorem room_nil (w : World) : Calls Tryd.prog 15 #[.pointer none] w fun e w' => e = .returned (.int .i64 0) ∧ w = w' := by
  go_enter Tryd.func15, Tryd.ntmps15
  go_wp2
  go_ret
  exact ⟨rfl, rfl⟩
theorem copy_nil (w : World) : Calls Tryd.prog 17 #[.pointer none] w fun e w' => e = .returned (.pointer none) ∧ w = w' := by
  go_enter Tryd.func17, Tryd.ntmps17
  go_wp2
  go_ret
  exact ⟨rfl, rfl⟩
theorem put_nil (b : Int) (d : List Int) (w : World) : Calls Tryd.prog 11 #[.pointer none, .int .i64 b, .agg (row d)] w fun e w' => e = .returned (.int .i64 1) ∧ w.grownBy w' none := by
  go_enter Tryd.func11, Tryd.ntmps11
  go_wp2
  go_ret
  exact ⟨rfl, grown_alloc (grown_refl _ _) _⟩
theorem find_nil (b : Int) (w : World) : Calls Tryd.prog 13 #[.pointer none, .int .i64 b] w fun e w' => e = .returned (.tuple #[.agg (row zd), .bool false, .bool false]) ∧ w.grownBy w' none := by
  obtain ⟨w2, hw, hg2, hb2, hs2⟩ := onerow w
  have hz : row zd = _ := zrow
  rw [hz] at hw
  have HB2 := Lib.hid hb2
  have HG2 := Lib.hid hg2
  clear hz hg2 hb2 hs2
  go_enter Tryd.func13, Tryd.ntmps13
  go_wp2_with ((with_reducible refine store_row zd rfl _ _ zrow _ _ w.heap.size ?_ ?_ HB2.out ?_ ?_); (rfl); (rfl); (rfl))
  have hr : (w2.setRow w.heap.size (row zd)).rangeAt w.heap.size 0 (zd.map U) := range_row (setRow_heap _ _ _ _ _ _ HB2.out)
  exact ret_row3 rfl _ zd rfl _ _ w.heap.size _ _ (by rfl) (by rfl) (by rfl) hr ⟨rfl, grown_setRow HG2.out _ (Nat.le_refl _) _⟩
end Go.Proofs.YtoifeinkaaclmaaDoor.bk
