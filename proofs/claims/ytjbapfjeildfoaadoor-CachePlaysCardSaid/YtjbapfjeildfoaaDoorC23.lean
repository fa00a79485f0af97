/-
  What the document's own Free, Used answer, and what its cache is behind them: contracts. Condition: the bounds that each theorem names.
-/
import Derived.Test.YtjbapfjeildfoaaDoorC22
import Derived.Test.YtjbapfjeildfoaaDoorV3
namespace Go.Proofs.YtjbapfjeildfoaaDoor.kk
open Go Go.ChangeShapes Go.WideShapes Go.ChangeAt Go.RowKit Go.Shelf
set_option linter.unusedVariables false

theorem find_hit {p : Ln → Bool} {ls : List Ln} {k : Nat} {l : Ln} (hl : ls[k]? = some l) (hp : p l = true) (hno : ∀ (j : Nat) x, j < k → ls[j]? = some x → p x = false) : ls.findIdx? p = some k := by
  obtain ⟨h1, h2⟩ := List.getElem?_eq_some_iff.1 hl
  refine List.findIdx?_eq_some_iff_getElem.2 ⟨h1, by rw [h2]; exact hp, fun j hj => ?_⟩
  have := hno j _ hj (List.getElem?_eq_getElem (by omega))
  simp [this]
theorem find_miss {p : Ln → Bool} {ls : List Ln} (hno : ∀ (j : Nat) x, ls[j]? = some x → p x = false) : ls.findIdx? p = none :=
  List.findIdx?_eq_none_iff.2 fun x hx => by
    obtain ⟨j, hj⟩ := List.getElem?_of_mem hx
    exact hno j x hj
def ixs (s W : Nat) : Option Nat → Int
  | none => -1
  | some k => ((s * W + k : Nat) : Int)
theorem tdiv_at (s n k : Nat) (hk : k < n) : Int.tdiv ((s * n + k : Nat) : Int) (n : Int) = (s : Int) := by
  have e : (s * n + k) / n = s := by rw [Nat.mul_comm, Nat.mul_add_div (by omega), Nat.div_eq_of_lt hk, Nat.add_zero]
  rw [← Int.ofNat_tdiv, e]
theorem tmod_at (s n k : Nat) (hk : k < n) : Int.tmod ((s * n + k : Nat) : Int) (n : Int) = (k : Int) := by
  have e : (s * n + k) % n = k := by rw [Nat.mul_comm, Nat.mul_add_mod, Nat.mod_eq_of_lt hk]
  rw [← Int.ofNat_tmod, e]
/-- What Used reads. -/
def Us3 (w' : World) (B G S s m n : Nat) : Prop := w'.cell? ⟨B, 9, none⟩ = some (.slice (some ⟨G, 0, none⟩) S S) ∧ w'.cell? ⟨G, s, none⟩ = some (.int .u8 (m : Int)) ∧ w'.cell? ⟨B, 2, none⟩ = some (.int .i64 (n : Int))
section
variable (R : RLoc) (c : Cfg) (ss : List St) (w : World) (hR : Rac w R c ss)
include hR
set_option maxHeartbeats 2000000 in
theorem rfree_any (b : Int) : Calls Tryd.prog 57 #[.pointer (some ⟨R.b, 0, none⟩), .int .i64 b] w fun e w' => e = .returned (.int .i64 (ixs (setOf c b) c.wa.toNat ((setAt c ss b).1.findIdx? isFree))) ∧ w.grownBy w' none := by
  have hp := hR.at b
  have hmay := hR.may
  have hwl := hR.wid _ (List.mem_of_getElem? hp)
  have hways := hmay.ways
  obtain ⟨W, hW⟩ : ∃ W, W = c.wa.toNat := ⟨_, rfl⟩
  have hwa : c.wa = (W : Int) := by omega
  have hW4 : 1 ≤ W ∧ W ≤ 4 := by omega
  rw [← hW] at hwl ⊢
  have HS := Lib.hid (rset_any c b w hmay)
  have hslt : setOf c b < 16 := by have := hmay.set_lt b; have := hmay.sets; omega
  have HR := Lib.hid (fun w' (h : w.grownBy w' none) => hR.grown h)
  obtain ⟨c0, c1, c2, c3, c4, c5, c6, c7⟩ := hR.cfg
  obtain ⟨s, hs⟩ : ∃ s, s = setOf c b := ⟨_, rfl⟩
  rw [← hs] at HS hslt hp ⊢
  obtain ⟨n, hn⟩ : ∃ n, n = (rowAll ss).length := ⟨_, rfl⟩
  have HC2 : Hid (∀ w', w.grownBy w' none → w'.cell? ⟨R.b, 2, none⟩ = some (.int .i64 (W : Int)) ∧ w'.cell? ⟨R.b, 8, none⟩ = some (.slice (some ⟨R.gl, 0, none⟩) n n)) := Lib.hid fun w' h => by
    rw [← hwa, hn]; exact ⟨(hR.grown h).cfg.c2, (hR.grown h).lines⟩
  obtain ⟨sW, hsW⟩ : ∃ sW, sW = s * W := ⟨_, rfl⟩
  have hmul : wrap64 ((s : Int) * (W : Int)) = (sW : Int) := by
    rw [hsW, Int.natCast_mul]
    exact w64 _ (by have := Int.mul_nonneg (Int.natCast_nonneg s) (Int.natCast_nonneg W); omega) (by rw [← Int.natCast_mul]; have : s * W ≤ 16 * 4 := Nat.mul_le_mul (by omega) hW4.2; omega)
  have hsW64 : sW ≤ 64 := by rw [hsW]; exact Nat.mul_le_mul (show s ≤ 16 by omega) hW4.2
  have HG : Hid (∀ k l, k < W → (setAt c ss b).1[k]? = some l → sW + k < n ∧ ∀ w', w.grownBy w' none → w'.cell? ⟨R.gl, (sW + k) * 18 + 1, none⟩ = some (.int .u8 l.s)) := Lib.hid fun k l hk hl => by
    have hg := rowAll_get hR.wid hp hl
    rw [← hW, ← hsW] at hg
    exact ⟨by rw [hn]; exact (List.getElem?_eq_some_iff.1 hg).1, fun w' h => (hR.grown h).row.at_ _ l hg 1 _ (ln1 l)⟩
  have HP := Lib.hid hwl
  generalize (setAt c ss b).1 = ls at *
  rw [show ixs s W (ls.findIdx? isFree) = match ls.findIdx? isFree with | none => -1 | some k => ((sW + k : Nat) : Int) by rw [hsW]; cases ls.findIdx? isFree <;> rfl]
  obtain ⟨z, hz⟩ : ∃ z : Int, z = match ls.findIdx? isFree with | none => -1 | some k => ((sW + k : Nat) : Int) := ⟨_, rfl⟩
  rw [← hz]
  have HZ := Lib.hid hz
  unfold Cfg.cells at HS
  clear hz hW hR hwl hp hmay hs hways hwa hn hsW hslt
  go_enter Tryd.func57, Tryd.ntmps57
  go_wp2_with (go_at_call 59; ((with_reducible refine HS.out.mono ?_); rintro e w1 ⟨rfl, hg1⟩; have HG1 := Lib.hid hg1; clear hg1 c0 c1 c2 c3 c4 c5 c6 c7))
  go_loopw [6] (fun i wr => ∃ k : Nat, k ≤ W ∧ i = .int .i64 (k : Int) ∧ w.grownBy wr none ∧ ∀ (j : Nat) x, j < k → ls[j]? = some x → isFree x = false) (fun i _ => W - (intOf i).toNat)
  case atStart => exact ⟨0, Nat.zero_le _, rfl, HG1.out, fun j x hj => by omega⟩
  case round =>
    obtain ⟨k, hk, rfl, hg, hno⟩ := hrel
    have HNO := Lib.hid hno
    have HGR := Lib.hid hg
    obtain ⟨c2, c8⟩ := HC2.out _ hg
    clear hno
    by_cases hlt : k < W
    · have hw1 : wrap64 ((k : Int) + 1) = (k : Int) + 1 := w64 _ (by omega) (by omega)
      obtain ⟨l, hll⟩ : ∃ l, ls[k]? = some l := ⟨_, List.getElem?_eq_getElem (by have := HP.out; omega)⟩
      have HLL := Lib.hid hll
      obtain ⟨hin, hd⟩ := HG.out k l hlt hll
      have hadd : wrap64 ((sW : Int) + (k : Int)) = (sW : Int) + (k : Int) := w64 _ (by omega) (by omega)
      have hi0 : 0 ≤ (sW : Int) + (k : Int) := by omega
      have hi1 : (sW : Int) + (k : Int) < (n : Int) := by omega
      have htn : ((sW : Int) + (k : Int)).toNat = sW + k := by omega
      obtain ⟨i, hi⟩ : ∃ i, i = sW + k := ⟨_, rfl⟩
      have HI := Lib.hid hi
      rw [← hi] at htn hd
      have d1 := hd _ hg
      clear hll hd hi hg hin
      by_cases hs : l.s = 0
      · have es : (l.s == 0) = true := by simp [hs]
        have HQ : Hid (isFree l = true) := Lib.hid (by simp [isFree, hs])
        clear hs
        go_wp2
        go_region
        go_wp2
        go_ret
        refine ⟨?_, grown_trans HGR.out (grown_drew (grown_refl _ _))⟩
        rw [HZ.out, find_hit HLL.out HQ.out HNO.out]
        show Ending.returned (.int .i64 ((sW : Int) + (k : Int))) = Ending.returned (.int .i64 ((sW + k : Nat) : Int))
        rw [Int.natCast_add]
      · have es : (l.s == 0) = false := by simp [hs]
        have HQ : Hid (isFree l = false) := Lib.hid (by simp [isFree, hs])
        clear hs
        go_wp2
        go_region
        go_wp2
        go_roundw
        case rel => exact ⟨k + 1, by omega, by go_num, grown_trans HGR.out (grown_drew (grown_refl _ _)), ix_up HNO.out HLL.out HQ.out⟩
        case measure => simp [intOf]; omega
    · obtain rfl : k = W := by omega
      clear hlt hk
      go_wp2
      go_ret
      exact ⟨by rw [HZ.out, find_miss (fun j x hx => HNO.out j x (by have := (List.getElem?_eq_some_iff.1 hx).1; have := HP.out; omega) hx)]; rfl, HGR.out⟩
/-- A memory was written. -/
theorem Rac.setMem {i : Nat} {p : St} (hp : ss[i]? = some p) (m : Nat) (hm : m < 256) : Rac (w.setCell ⟨R.gm, i, none⟩ (.int .u8 (m : Int))) R c (ss.set i (p.1, m)) := by
  have hi : i < ss.length := (List.getElem?_eq_some_iff.1 hp).1
  obtain ⟨hn1, hn2, hn3⟩ := hR.ne
  have hg := grown_setCell w R.gm i (.int .u8 (m : Int))
  have hb := hg.block R.b (hR.lt (.inl rfl)) (fun e => hn2 (Option.some.inj e).symm)
  have hl := hg.block R.gl (hR.lt (.inr (.inl rfl))) (fun e => hn3 (Option.some.inj e).symm)
  refine ⟨by rw [List.length_set, rowAll_mem hp]; exact hb.trans hR.blk, by rw [rowAll_mem hp]; exact hR.row.same hl, ?_, fun j p' hj => ?_, by rw [List.length_set]; exact hR.len, fun p' hp' => ?_, fun p' hp' => ?_, hR.may⟩
  · obtain ⟨cur, hc⟩ := hR.mb; exact ⟨_, blk_setCell _ hc⟩
  · by_cases hji : j = i
    · subst hji
      rw [List.getElem?_set_self hi] at hj
      cases hj
      have h0 := hR.mem _ p hp
      exact World.cell?_setCells_in R.gm [.int .u8 (m : Int)] j w (fun i hi => by simp at hi; subst hi; rw [Nat.add_zero, h0]; rfl) 0 (by simp)
    · rw [List.getElem?_set_ne (fun e => hji e.symm)] at hj
      have h0 := hR.mem j p' hj
      have := World.rangeAt_setCells_apart (w := w) (b' := R.gm) (o' := j) (cs := [.int .u8 (p'.2 : Int)]) (fun j v hv => by
        match j, hv with
        | 0, hv => simp at hv; subst hv; exact h0
        | j + 1, hv => simp at hv) R.gm i [.int .u8 (m : Int)] (.inr (by simp; omega))
      exact this 0 _ rfl
  · rcases List.mem_or_eq_of_mem_set hp' with hp' | rfl
    · exact hR.wid p' hp'
    · exact hR.wid p (List.mem_of_getElem? hp)
  · rcases List.mem_or_eq_of_mem_set hp' with hp' | rfl
    · exact hR.mlt p' hp'
    · exact hm
theorem Rac.good {p : St} (hp : p ∈ ss) : good (p.1.length : Int) := by
  have h1 := hR.wid p hp
  have h2 := hR.may.ways
  unfold kk.good
  omega
omit hR in
theorem Us3.more {w1 w2 : World} {B G S s m n : Nat} (h : Us3 w1 B G S s m n) (hg : w1.grownBy w2 none) : Us3 w2 B G S s m n := ⟨hg.cell h.1 (by simp), hg.cell h.2.1 (by simp), hg.cell h.2.2 (by simp)⟩
set_option maxHeartbeats 2000000 in
theorem rused_any (s k : Nat) (p : St) (hp : ss[s]? = some p) (hk : k < p.1.length) : Calls Tryd.prog 58 #[.pointer (some ⟨R.b, 0, none⟩), .int .i64 ((s * p.1.length + k : Nat) : Int)] w fun e w' => e = .returned (.tuple #[]) ∧ Rac w' R c (ss.set s (p.1, us p.2 p.1.length k)) ∧ Kept R.own w w' := by
  have hmem := List.mem_of_getElem? hp
  have hg := Rac.good R c ss w hR hmem
  have hwl := hR.wid _ hmem
  have hm256 := hR.mlt p hmem
  have hs : s < ss.length := (List.getElem?_eq_some_iff.1 hp).1
  have HU := Lib.hid (fun w => ruse_in p.2 p.1.length k w hm256 hg hk)
  have hW4 : p.1.length ≤ 4 := by unfold kk.good at hg; omega
  have HM := Lib.hid (us_lt p.2 p.1.length k hm256 hk hW4)
  have HC : Hid (∀ w', w.grownBy w' none → (w'.cell? ⟨R.b, 9, none⟩ = some (.slice (some ⟨R.gm, 0, none⟩) ss.length ss.length) ∧ w'.cell? ⟨R.gm, s, none⟩ = some (.int .u8 (p.2 : Int)) ∧ w'.cell? ⟨R.b, 2, none⟩ = some (.int .i64 (p.1.length : Int))) ∧ w'.frozen? ⟨R.gm, s, none⟩ = false) := Lib.hid fun w' h => by
    have h' := hR.grown h
    have := h'.cfg.c2
    obtain ⟨_, hc⟩ := h'.mb
    rw [show c.wa = (p.1.length : Int) by have := hR.may.ways; omega] at this
    exact ⟨⟨h'.mems, h'.mem s p hp, this⟩, frozen_of_row _ _ _ _ _ hc⟩
  have HE : Hid (∀ w', w.grownBy w' none → Rac (w'.setCell ⟨R.gm, s, none⟩ (.int .u8 (us p.2 p.1.length k : Nat))) R c (ss.set s (p.1, us p.2 p.1.length k)) ∧ Kept R.own w (w'.setCell ⟨R.gm, s, none⟩ (.int .u8 (us p.2 p.1.length k : Nat)))) := Lib.hid fun w' h =>
    ⟨Rac.setMem R c ss w' (hR.grown h) hp _ HM.out, (Kept.of h).trans (Kept.one (grown_setCell _ _ _ _) (.inr rfl))⟩
  generalize us p.2 p.1.length k = m' at *
  generalize p.1.length = n at *
  generalize p.2 = m0 at *
  have hlen := hR.len
  generalize ss.length = S at *
  obtain ⟨i, hi⟩ : ∃ i, i = s * n + k := ⟨_, rfl⟩
  have hq : Int.tdiv (i : Int) (n : Int) = (s : Int) := by rw [hi]; exact tdiv_at s n k hk
  have hr : Int.tmod (i : Int) (n : Int) = (k : Int) := by rw [hi]; exact tmod_at s n k hk
  have hnz : ¬ n = 0 := by omega
  have hS16 : S ≤ 16 := by have := hR.may.sets; omega
  have hs0 : (0 : Int) ≤ (s : Int) := by omega
  have hs1 : (s : Int) < (S : Int) := by omega
  have hs2 : (s : Int) ≤ (S : Int) := by omega
  have hwk : wrap64 (k : Int) = (k : Int) := w64 _ (by omega) (by omega)
  have hws : wrap64 (s : Int) = (s : Int) := w64 _ (by omega) (by omega)
  rw [← hi]
  obtain ⟨⟨c9, cm, c2⟩, fr⟩ := HC.out w (grown_refl _ _)
  clear hR hp hmem hg hwl hm256 hi hk hW4 hlen hS16
  have HS : Hid (Us3 w.drew R.b R.gm S s m0 n) := Lib.hid (HC.out _ (grown_drew (grown_refl _ _))).1
  go_enter Tryd.func58, Tryd.ntmps58
  go_wp2
  go_region_held3 (fun w' => w'.cell? ⟨R.b, 9, none⟩ = some (.slice (some ⟨R.gm, 0, none⟩) S S) ∧ w'.cell? ⟨R.gm, s, none⟩ = some (.int .u8 (m0 : Int)) ∧ w'.cell? ⟨R.b, 2, none⟩ = some (.int .i64 (n : Int)))
    (first | exact HS.out | exact Us3.more (by assumption) (by assumption))
    (first | (go_at_call 66; ((with_reducible refine (HU.out _).mono ?_); rintro e w5 ⟨rfl, hg5⟩)))
  obtain ⟨⟨c9', cm', c2'⟩, fr'⟩ := HC.out w5 (grown_trans (grown_drew (grown_refl _ _)) hg5)
  have HE5 := Lib.hid (HE.out w5 (grown_trans (grown_drew (grown_refl _ _)) hg5))
  clear hg5
  go_wp2
  go_end0
  exact ⟨rfl, HE5.out⟩
end
end Go.Proofs.YtjbapfjeildfoaaDoor.kk
