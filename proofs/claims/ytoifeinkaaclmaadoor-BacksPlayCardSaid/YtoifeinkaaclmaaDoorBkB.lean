/-
  Blocks that a core is writing back: where they lie, what New, place, Len, Room, Copy answer: definitions and contracts. Condition: for New the table of bounds lies in its variable as the program's text has it.
-/
import Derived.Test.YtoifeinkaaclmaaDoorBkF
namespace Go.Proofs.YtoifeinkaaclmaaDoor.bk
open Go Go.ChangeShapes Go.WideShapes Go.ChangeAt Go.RowKit
open Go.Proofs.YtoifeinkaaclmaaDoor.tt (Cfg Tab CfgAt cfg_at yes yes_of yes_not may_any data_yes data_no U zd row tyne add_lit lt_of range_grown grown_setCells grown_setRow grown_new grown_drewN below_of grown_alloc grown_refl grown_trans grown_drew Sl Pool Turn Next flat)
set_option linter.unusedVariables false

/-- The back of a block, if there is one; those of the other blocks. -/
def look (ns : List Bk) (b : Int) : Option Bk := ns.find? (fun x => x.b == b)
def rem (ns : List Bk) (b : Int) : List Bk := ns.eraseP (fun x => x.b == b)
def dead (x : Bk) : Bk := ⟨x.b, x.d, false, x.hd⟩
def fresh (b : Int) (d : List Int) (hd : d.length = 16) : Bk := ⟨b, d, true, hd⟩

theorem look_b {ns : List Bk} {b : Int} {x : Bk} (h : look ns b = some x) : x.b = b := by
  have := List.find?_some h
  simpa using this
theorem look_mem {ns : List Bk} {b : Int} {x : Bk} (h : look ns b = some x) : x ∈ ns := List.mem_of_find?_eq_some h
theorem rem_none {ns : List Bk} {b : Int} (h : look ns b = none) : rem ns b = ns := by
  unfold look at h; unfold rem
  rw [List.find?_eq_none] at h
  exact List.eraseP_of_forall_not (fun x hx => h x hx)
theorem rem_len {ns : List Bk} {b : Int} {x : Bk} (h : look ns b = some x) : (rem ns b).length + 1 = ns.length := by
  have hm := look_mem h
  have hb := look_b h
  have hl := List.length_eraseP_of_mem (p := fun x => x.b == b) hm (by simp [hb])
  have : 0 < ns.length := List.length_pos_of_mem hm
  unfold rem; omega
theorem rem_le (ns : List Bk) (b : Int) : (rem ns b).length ≤ ns.length := List.length_eraseP_le
/-- The first place of a block's back. -/
theorem ff_look : ∀ (ns : List Bk) (b : Int), (look ns b = none ∧ ff ns b 0 = -1) ∨ ∃ k x, look ns b = some x ∧ ff ns b 0 = ((k : Nat) : Int) ∧ ns[k]? = some x ∧ ns.eraseIdx k = rem ns b
  | [], b => .inl ⟨rfl, rfl⟩
  | y :: r, b => by
    by_cases hy : y.b = b
    · refine .inr ⟨0, y, ?_, ?_, rfl, ?_⟩
      · simp [look, hy]
      · subst hy; exact ff_hit rfl
      · simp [rem, hy]
    · have hyb : (y.b == b) = false := by simp [hy]
      have hff : ff (y :: r) b 0 = (match r.findIdx? (fun x => x.b == b) with | some j => ((j + 1 : Nat) : Int) | none => -1) := by
        unfold ff
        rw [List.drop_zero, List.findIdx?_cons, hyb]
        cases r.findIdx? (fun x => x.b == b) <;> simp
      rcases ff_look r b with ⟨h1, h2⟩ | ⟨k, x, h1, h2, h3, h4⟩
      · refine .inl ⟨?_, ?_⟩
        · unfold look at h1 ⊢; rw [List.find?_cons, hyb]; exact h1
        · rw [hff]
          unfold ff at h2; rw [List.drop_zero] at h2
          cases hf : r.findIdx? (fun x => x.b == b) with
          | none => rfl
          | some j => rw [hf] at h2; simp at h2
      · refine .inr ⟨k + 1, x, ?_, ?_, by simpa using h3, ?_⟩
        · unfold look at h1 ⊢; rw [List.find?_cons, hyb]; exact h1
        · rw [hff]
          unfold ff at h2; rw [List.drop_zero] at h2
          cases hf : r.findIdx? (fun x => x.b == b) with
          | none => rw [hf] at h2; simp at h2
          | some j => rw [hf] at h2; simp at h2 ⊢; omega
        · unfold rem at h4 ⊢
          rw [List.eraseP_cons_of_neg (by simp [hy]), List.eraseIdx_cons_succ, h4]

/-- What Backs are in memory: the struct in block t, the pool in block p, its slice v; n data blocks, room for m. -/
structure BkAt (w : World) (t p : Nat) (v : Value) (n : Int) (m : Nat) (ns : List Bk) : Prop where
  blk : w.heap[t]? = some (.cells #[.int .i64 n, .pointer (some ⟨p, 0, none⟩)] 59 (0, 0))
  pool : BPool w p v m ns
  len : ns.length ≤ m
  room : m ≤ 65536
section
variable {w w' : World} {t p : Nat} {v v' : Value} {n : Int} {m : Nat} {ns ns' : List Bk}
theorem BkAt.lt (h : BkAt w t p v n m ns) : t < w.heap.size := lt_of h.blk
theorem BkAt.c0 (h : BkAt w t p v n m ns) : w.cell? ⟨t, 0, none⟩ = some (.int .i64 n) := by simp [World.cell?, h.blk]
theorem BkAt.c1 (h : BkAt w t p v n m ns) : w.cell? ⟨t, 1, none⟩ = some (.pointer (some ⟨p, 0, none⟩)) := by simp [World.cell?, h.blk]
theorem BkAt.short (h : BkAt w t p v n m ns) : ns.length ≤ 65536 := Nat.le_trans h.len h.room
theorem BkAt.tp (h : BkAt w t p v n m ns) : t ≠ p := tyne h.blk h.pool.blk (by decide)
theorem BkAt.tv (h : BkAt w t p v n m ns) : some t ≠ v.ownBlock := fun e => by
  obtain ⟨cur, hc⟩ := h.pool.sl.type _ e.symm
  exact tyne h.blk hc (by decide) rfl
theorem BkAt.of_block (h : BkAt w t p v n m ns) (ht : w'.heap[t]? = w.heap[t]?) (hp : w'.heap[p]? = w.heap[p]?) (hk : ∀ g, v.ownBlock = some g → w'.heap[g]? = w.heap[g]?) : BkAt w' t p v n m ns :=
  ⟨ht.trans h.blk, h.pool.of_block hp hk, h.len, h.room⟩
theorem BkAt.grown (h : BkAt w t p v n m ns) (hg : w.grownBy w' none) : BkAt w' t p v n m ns :=
  h.of_block (hg.block t h.lt (by simp)) (hg.block p h.pool.lt (by simp)) (fun g hk => hg.block g (h.pool.sl.lt g hk) (by simp))
theorem BkAt.next (h : BkAt w t p v n m ns) (hT : Turn w w' p v v') (hP : BPool w' p v' m ns') (hl : ns'.length ≤ m) : BkAt w' t p v' n m ns' :=
  ⟨(hT.block t h.lt h.tp h.tv).trans h.blk, hP, hl, h.room⟩
/-- Another one is left alone. -/
theorem BkAt.other {t2 p2 : Nat} {v2 : Value} {n2 : Int} {m2 : Nat} {ns2 : List Bk} (h : BkAt w t2 p2 v2 n2 m2 ns2) (h1 : BkAt w t p v n m ns) (hT : Turn w w' p v v') (hp : p2 ≠ p) (hv : v2.ownBlock = none ∨ v2.ownBlock ≠ v.ownBlock) : BkAt w' t2 p2 v2 n2 m2 ns2 := by
  refine h.of_block (hT.block t2 h.lt (tyne h.blk h1.pool.blk (by decide)) fun e => ?_) (hT.block p2 h.pool.lt hp fun e => ?_) fun g hg => hT.block g (h.pool.sl.lt g hg) ?_ fun e => ?_
  · obtain ⟨cur, hc⟩ := h1.pool.sl.type _ e.symm
    exact tyne h.blk hc (by decide) rfl
  · obtain ⟨cur, hc⟩ := h1.pool.sl.type _ e.symm
    exact tyne h.pool.blk hc (by decide) rfl
  · obtain ⟨cur, hc⟩ := h.pool.sl.type _ hg
    exact tyne hc h1.pool.blk (by decide)
  · rcases hv with hv | hv
    · rw [hv] at hg; cases hg
    · exact hv (hg.trans e)
end
theorem grown_of_below {w w' : World} (h : Below w.heap.size w w') : w.grownBy w' none := ⟨h.os, h.tape, h.output, h.size, fun k hk _ => h.block k hk⟩

set_option maxRecDepth 100000
theorem new_no (c : Cfg) (w : World) (hT : Tab w) (hm : ¬ c.may) : Calls Tryd.prog 8 #[.agg c.cells] w fun e w' => e = .returned (.tuple #[.pointer none, .int .i64 2]) ∧ w.grownBy w' none := by
  have HG0 : Hid (w.grownBy (w.alloc (.cells c.cells 27)) none) := Lib.hid (grown_alloc (grown_refl _ _) _)
  have HM := Lib.hid (may_any c (w.alloc (.cells c.cells 27)) (hT.grown HG0.out))
  rw [yes_not hm] at HM
  clear hT hm
  unfold Cfg.cells at *
  go_enter Tryd.func8, Tryd.ntmps8
  go_wp2_with (go_at_call 27; ((with_reducible refine HM.out.mono ?_); rintro e w1 ⟨rfl, hg1⟩; have HG1 := Lib.hid hg1; clear hg1))
  go_ret2
  exact ⟨rfl, grown_trans HG0.out HG1.out⟩
set_option maxHeartbeats 1000000 in
theorem new_yes (c : Cfg) (m : Nat) (w : World) (hT : Tab w) (hm : c.may) (hba : c.ba = (m : Int)) (h1 : 1 ≤ m) (h2 : m ≤ 65536) : Calls Tryd.prog 8 #[.agg c.cells] w fun e w' => ∃ t p, e = .returned (.tuple #[.pointer (some ⟨t, 0, none⟩), .int .i64 0]) ∧ BkAt w' t p (.slice none 0 0) c.data m [] ∧ w.heap.size ≤ t ∧ w.heap.size ≤ p ∧ w.grownBy w' none := by
  have hg0 : w.grownBy (w.alloc (.cells c.cells 27)) none := grown_alloc (grown_refl _ _) _
  have HM := Lib.hid (may_any c (w.alloc (.cells c.cells 27)) (hT.grown hg0))
  rw [yes_of hm] at HM
  have HC := Lib.hid (cfg_at w c)
  obtain ⟨d0, d1, d2, d3, d4, d5, d6, d7⟩ := (cfg_at w c)
  have HP : Hid (∀ w, _) := Lib.hid fun w => pnew_ok m w h1 h2
  have HD : Hid (∀ w', w.grownBy w' none → _) := Lib.hid fun w' h => data_yes c w' (hT.grown h) hm
  have HG0 := Lib.hid hg0
  rw [← hba] at HP
  clear hT hm h1 hg0
  have HH2 := Lib.hid h2
  have HBA := Lib.hid hba
  clear h2 hba
  unfold Cfg.cells at *
  go_enter Tryd.func8, Tryd.ntmps8
  go_wp2_with (first
    | (go_at_call 27; ((with_reducible refine HM.out.mono ?_); rintro e w1 ⟨rfl, hg1⟩; have HG1 := Lib.hid hg1; obtain ⟨d0, d1, d2, d3, d4, d5, d6, d7⟩ := HC.out.grown hg1; clear hg1))
    | (go_at_call 28; ((with_reducible refine (HP.out _).mono ?_); rintro e w2 ⟨rfl, hw2⟩; have HW2 := Lib.hid hw2; have hg2 : w1.grownBy w2 none := (by rw [hw2]; exact grown_alloc (grown_refl _ _) _); have HG2 := Lib.hid hg2; obtain ⟨d0, d1, d2, d3, d4, d5, d6, d7⟩ := (HC.out.grown HG1.out).grown hg2; clear hw2 hg2))
    | (go_at_call 25; ((with_reducible refine (HD.out _ (grown_trans HG0.out (grown_trans HG1.out HG2.out))).mono ?_); rintro e w3 ⟨rfl, hg3⟩; have HG3 := Lib.hid hg3; clear hg3)))
  go_ret2
  have hp2 : w2.heap[w1.heap.size]? = some (.cells #[.slice none 0 0, .int .i64 (m : Int)] 79 (0, 0)) := by
    rw [HW2.out, HBA.out]; exact heap_alloc_new _ _
  have hs1 : w.heap.size ≤ w1.heap.size := (grown_trans HG0.out HG1.out).size
  have hs2 : w1.heap.size < w2.heap.size := lt_of hp2
  have hs3 := HG3.out.size
  refine ⟨w3.heap.size, w1.heap.size, rfl, ⟨heap_alloc_new _ _, ⟨(Below.heap_alloc _ _ _ (by omega)).trans ((HG3.out.block _ hs2 (by simp)).trans hp2), Sl.nil _ _ _, by simp [Value.ownBlock]⟩, by simp, HH2.out⟩, by omega, hs1, grown_alloc (grown_trans HG0.out (grown_trans HG1.out (grown_trans HG2.out HG3.out))) _⟩

section
variable (t p : Nat) (v : Value) (n : Int) (m : Nat) (ns : List Bk) (w : World) (H : BkAt w t p v n m ns)
include H
theorem place_any (b : Int) : Calls Tryd.prog 29 #[.pointer (some ⟨t, 0, none⟩), .int .i64 b] w fun e w' => e = .returned (.int .i64 (ff ns b 0)) ∧ w.grownBy w' none := by
  have hg : w.grownBy (w.alloc (.cells #[.int .i64 b] 3)) none := grown_alloc (grown_refl _ _) _
  have hc := (H.grown hg).c1
  have HF := Lib.hid (first_any p w.heap.size v m ns b _ (H.grown hg).pool H.short (by rw [cell_of_row _ _ _ _ _ _ (heap_alloc_new w _)]; rfl))
  have HG := Lib.hid hg
  clear H hg
  go_enter Tryd.func29, Tryd.ntmps29
  go_wp2_with (go_at_call 41; ((with_reducible refine HF.out.mono ?_); rintro e w1 ⟨rfl, hb1⟩; have HB1 := Lib.hid hb1; clear hb1))
  go_ret
  exact ⟨rfl, grown_trans HG.out (grown_of_below HB1.out)⟩
theorem len_any : Calls Tryd.prog 16 #[.pointer (some ⟨t, 0, none⟩)] w fun e w' => e = .returned (.int .i64 (ns.length : Int)) ∧ w = w' := by
  have hc := H.c1
  have HP := Lib.hid (plen_any p v m ns w H.pool)
  clear H
  go_enter Tryd.func16, Tryd.ntmps16
  go_wp2_with (go_at_call 34; ((with_reducible refine HP.out.mono ?_); rintro e w1 ⟨rfl, rfl⟩))
  go_ret
  exact ⟨rfl, rfl⟩
theorem room_any : Calls Tryd.prog 15 #[.pointer (some ⟨t, 0, none⟩)] w fun e w' => e = .returned (.int .i64 ((m : Int) - (ns.length : Int))) ∧ ∃ k, w' = w.drewN k := by
  have hc := H.c1
  have HP := Lib.hid (proom_any p v m ns w H.pool H.len H.room)
  clear H
  go_enter Tryd.func15, Tryd.ntmps15
  go_wp2_with (go_at_call 33; ((with_reducible refine HP.out.mono ?_); rintro e w1 ⟨rfl, k, rfl⟩))
  go_ret
  exact ⟨rfl, k, rfl⟩
set_option maxHeartbeats 1000000 in
theorem copy_any : Calls Tryd.prog 17 #[.pointer (some ⟨t, 0, none⟩)] w fun e w' => ∃ t' p' v', e = .returned (.pointer (some ⟨t', 0, none⟩)) ∧ BkAt w' t' p' v' n m ns ∧ w.heap.size ≤ t' ∧ w.heap.size ≤ p' ∧ (∀ k, v'.ownBlock = some k → w.heap.size ≤ k) ∧ w.grownBy w' none := by
  have hc0 := H.c0
  have hc := H.c1
  have HC := Lib.hid (pcopy_any p v m ns w.drew (H.grown (grown_drew (grown_refl _ _))).pool H.short)
  have HL := Lib.hid H.len
  have HR := Lib.hid H.room
  have hlt := H.lt
  clear H
  go_enter Tryd.func17, Tryd.ntmps17
  go_wp2_with fail
  go_region_with (go_at_call 35; ((with_reducible refine HC.out.mono ?_); rintro e w2 ⟨p', v', rfl, hp2, hP2, hgr2, hfr2⟩; have hc2 := hgr2.cell (show w.drew.cell? ⟨t, 0, none⟩ = _ from hc0) (by simp)))
  all_goals
    go_wp2_with fail
    go_ret
    have hs2 := hgr2.size
    have hp2' : w.heap.size ≤ p' := by simpa using hp2
    have hl2 := hP2.lt
    refine ⟨_, _, _, rfl, ⟨heap_alloc_new _ _, hP2.grown (grown_alloc (grown_refl _ _) _), HL.out, HR.out⟩, by simpa using hs2, hp2', hfr2, ⟨hgr2.os, hgr2.tape, hgr2.output, by simp at hs2 ⊢; omega, fun k hk h => ?_⟩⟩
    exact (Below.heap_alloc _ _ _ (by simp at hs2; omega)).trans (hgr2.block k hk h)
end
end Go.Proofs.YtoifeinkaaclmaaDoor.bk
