/-
  The landed log keeps what the laws ask of a log: its contracts as one record; New. Condition: the table of bounds lies in its variable as the program's text has it.
-/
import Derived.Test.YtfjjmlmkpdpdfaaDoorUeD
namespace Go.Proofs.YtfjjmlmkpdpdfaaDoor.ud
open Go Go.ChangeShapes Go.WideShapes Go.ChangeAt Go.RowKit
open Go.Proofs.YtfjjmlmkpdpdfaaDoor.tt (Cfg Tab trip CfgAt cfg_at)
open Go.Proofs.YtfjjmlmkpdpdfaaDoor.pp (RMem Mem grown_refl grown_trans grown_alloc getW inn setW)
set_option linter.unusedVariables false
set_option maxRecDepth 1000000

theorem atV_form (es : List (Int × Int)) (i : Int) : ∃ p q z, atV es i = .tuple #[.int .u32 p, .int .u32 q, .int .i64 z] := by
  unfold atV
  split
  · exact ⟨_, _, _, rfl⟩
  · exact ⟨_, _, _, rfl⟩
section
variable {w0 : World} {c : Cfg} {F mb : Nat} {mv : Value} {lb : Nat} {w w' : World} {P P' : Nat → Prop} {es es' : List (Int × Int)} {bs bs' : List (List Int)}
theorem Lg.at_ (h : Lg w0 c F mb mv lb w P es bs) (hm : c.may) (i : Int) : Calls Tryd.prog 23 #[.pointer (some ⟨lb, 0, none⟩), .int .i64 i] w fun e w' => e = .returned (atV es i) ∧ w.grownBy w' none := by
  have hlo := hm.fits.lo
  have hl := h.len
  have hmo := h.most
  have hfe := h.few
  by_cases hi : 0 ≤ i ∧ i < es.length
  · obtain ⟨k, rfl⟩ : ∃ k : Nat, i = k := ⟨i.toNat, by omega⟩
    have hk : k < es.length := by omega
    have hb : F + k / 8 < bs.length := by omega
    have hg := h.stands.get (List.getElem?_eq_getElem hk) hb
    have := at_in h.log h.mem k hk (by omega) (by omega) hb
    rw [hg.1, hg.2] at this
    unfold atV
    rw [if_pos hi, show ((k : Int)).toNat = k by omega, List.getD_eq_getElem?_getD, List.getElem?_eq_getElem hk]
    exact this
  · unfold atV
    rw [if_neg hi]
    exact at_out h.log i (by omega)
theorem Lg.last (h : Lg w0 c F mb mv lb w P es bs) (hm : c.may) : Calls Tryd.prog 15 #[.pointer (some ⟨lb, 0, none⟩)] w fun e w' => e = .returned (atV es ((es.length : Int) - 1)) ∧ w.grownBy w' none := by
  have HL := Lib.hid (len_any h.log)
  have HA : Hid (∀ w1, w.grownBy w1 none → Calls Tryd.prog 23 #[.pointer (some ⟨lb, 0, none⟩), .int .i64 ((es.length : Int) - 1)] w1 fun e w' => e = .returned (atV es ((es.length : Int) - 1)) ∧ w1.grownBy w' none) := Lib.hid fun w1 hg => (h.grown hg).at_ hm _
  obtain ⟨p, q, z, hz⟩ := atV_form es ((es.length : Int) - 1)
  rw [hz] at HA ⊢
  have hlo := hm.fits.lo
  have hl : es.length ≤ 32 := by have := h.len; omega
  clear h hm hlo hz
  generalize es.length = n at *
  go_enter Tryd.func15, Tryd.ntmps15
  go_wp2_with (first
    | (go_at_call 17; ((with_reducible refine HL.out.mono ?_); rintro e w1 ⟨rfl, q1, hq1⟩; have HG1 : Hid (w.grownBy w1 none) := Lib.hid (by rw [hq1]; exact grown_drewN _ _); clear hq1))
    | (go_at_call 23; ((with_reducible refine (HA.out _ HG1.out).mono ?_); rintro e w2 ⟨rfl, hg2⟩; have HG2 := Lib.hid (grown_trans HG1.out hg2); clear hg2)))
  go_ret3
  exact ⟨rfl, HG2.out⟩
theorem Lg.add (h : Lg w0 c F mb mv lb w P es bs) (hT : Tab w0) (hm : c.may) (a o : Int) (h0 : 0 ≤ a) (h1 : a < 4294967296) : Calls Tryd.prog 12 #[.pointer (some ⟨lb, 0, none⟩), .int .u32 a, .int .u32 o] w fun e w' => e = .returned (.int .i64 (addE c es a)) ∧ ∃ P', Lg w0 c F mb mv lb w' P' (addL c es a o) (addB c F es bs a o) ∧ Nx w w' P P' := by
  have hTw := hT.grown h.old
  have hlo := hm.fits.lo
  have hl := h.len
  have hmo := h.most
  have hfe := h.few
  by_cases he : wErr c a = 0
  · by_cases hn : (es.length : Int) = 8 * c.lo
    · have e : addE c es a = 7 := by unfold addE; rw [if_neg (by omega), if_pos hn]
      have e1 : addL c es a o = es := by unfold addL; rw [if_neg (by omega)]
      have e2 : addB c F es bs a o = bs := by unfold addB; rw [if_neg (by omega)]
      rw [e, e1, e2]
      exact (add_full h.log hTw hm a o h0 h1 he hn).mono fun e w' k => ⟨k.1, P, h.grown k.2, ⟨Fr.of_grown k.2 (by simp), fun k hk => .inl hk⟩⟩
    · have e : addE c es a = 0 := by unfold addE; rw [if_neg (by omega), if_neg hn]
      have e1 : addL c es a o = es ++ [(a, o)] := by unfold addL; rw [if_pos e]
      have e2 : addB c F es bs a o = putE bs F es.length (a, o) := by unfold addB; rw [if_pos e]
      rw [e, e1, e2]
      have hb : F + es.length / 8 < bs.length := by omega
      refine (add_ok h.log h.mem hTw hm a o h0 h1 he (by omega) (by omega) hb).mono fun e w' k => ⟨k.1, P, ?_⟩
      exact h.next (by rw [List.length_append]; exact k.2.1) k.2.2.1 k.2.2.2 (by rw [List.length_append, List.length_singleton]; omega) (by unfold putE; rw [put1_len, put1_len]) (h.stands.add (a, o) hb h.mem.len)
  · have e : addE c es a = wErr c a := by unfold addE; rw [if_pos he]
    have e1 : addL c es a o = es := by unfold addL; rw [if_neg (by omega)]
    have e2 : addB c F es bs a o = bs := by unfold addB; rw [if_neg (by omega)]
    rw [e, e1, e2]
    exact (add_err h.log hTw hm a o h0 h1 he).mono fun e w' k => ⟨k.1, P, h.grown k.2, ⟨Fr.of_grown k.2 (by simp), fun k hk => .inl hk⟩⟩
theorem Lg.pop (h : Lg w0 c F mb mv lb w P es bs) (hm : c.may) : Calls Tryd.prog 14 #[.pointer (some ⟨lb, 0, none⟩)] w fun e w' => e = .returned (.int .i64 (if es = [] then 4 else 0)) ∧ ∃ P', Lg w0 c F mb mv lb w' P' es.dropLast bs ∧ Nx w w' P P' := by
  have hlo := hm.fits.lo
  have hl := h.len
  by_cases he : es = []
  · subst he
    rw [if_pos rfl]
    exact (pop_none h.log).mono fun e w' k => ⟨k.1, P, h.grown k.2, ⟨Fr.of_grown k.2 (by simp), fun k hk => .inl hk⟩⟩
  · rw [if_neg he]
    obtain ⟨n, hn⟩ : ∃ n, es.length = n + 1 := ⟨es.length - 1, by have := List.length_pos_iff.2 he; omega⟩
    have hL := h.log
    rw [hn] at hL
    refine (pop_some hL (by omega)).mono fun e w' k => ⟨k.1, P, ?_⟩
    have hd : es.dropLast.length = n := by rw [List.length_dropLast, hn]; rfl
    refine h.next (by rw [hd]; exact k.2.1) ?_ (Fr.of_grown k.2.2 fun k hk => .inl (by cases hk; rfl)) (by rw [hd]; omega) rfl h.stands.pop
    exact mem_log hL h.mem k.2.2
theorem Lg.clr (h : Lg w0 c F mb mv lb w P es bs) (hm : c.may) : Calls Tryd.prog 16 #[.pointer (some ⟨lb, 0, none⟩)] w fun e w' => e = .returned (.tuple #[]) ∧ ∃ P', Lg w0 c F mb mv lb w' P' [] bs ∧ Nx w w' P P' := by
  have hlo := hm.fits.lo
  refine (clear_any h.log).mono fun e w' k => ⟨k.1, P, ?_⟩
  exact h.next k.2.1 (mem_log h.log h.mem k.2.2) (Fr.of_grown k.2.2 fun k hk => .inl (by cases hk; rfl)) (by simp; omega) rfl (Stands.nil _ _)
end
theorem impl {w0 : World} {c : Cfg} {F mb : Nat} {mv : Value} {lb : Nat} (hT : Tab w0) (hm : c.may) : Impl w0 c F mb mv lb (Lg w0 c F mb mv lb) where
  old h := h.old
  lt h := h.lt
  row h := h.row
  mem h := h.mem
  own h := fun k hk => ⟨by rw [h.pis]; exact .inr (.inr hk), h.newm k hk⟩
  len h := h.len
  grown h hg := h.grown hg
  aside {w w' P es bs Q} h hf hq := by
    have hp : ∀ k, P k → ¬ Q k := fun k hk hQ => (hq k hQ).1 hk
    rw [h.pis] at hp
    exact ⟨⟨hf.os.trans h.old.os, hf.tape.trans h.old.tape, hf.output.trans h.old.output, Nat.le_trans h.old.size hf.size, fun k hk hn => (hf.block k (Nat.lt_of_lt_of_le hk h.old.size) fun e => by have := (hq k e).2.1; omega).trans (h.old.block k hk hn)⟩, h.pis,
      ⟨(hf.block lb h.log.lt (hp lb (.inl rfl))).trans h.log.blk⟩, mem_aside h.mem hf (hp mb (.inr (.inl rfl))) (fun k hk => hp k (.inr (.inr hk))) (fun k hk => (hq k hk).2.2), h.new, h.newm, h.len, h.data, h.most, h.few, h.stands⟩
  setw {w w' P es bs b k y} h hb hk hM hg := by
    have hd := h.data
    exact ⟨⟨hg.os.trans h.old.os, hg.tape.trans h.old.tape, hg.output.trans h.old.output, Nat.le_trans h.old.size hg.size, fun k hk hn => (hg.block k (Nat.lt_of_lt_of_le hk h.old.size) fun e => by have := h.newm k e.symm; omega).trans (h.old.block k hk hn)⟩, h.pis,
      ⟨(hg.block lb h.log.lt (fun e => log_apart h.log h.mem e.symm)).trans h.log.blk⟩, hM, h.new, h.newm, h.len, h.data, by rw [put1_len]; exact h.most, by rw [put1_len]; exact h.few, h.stands.set y (by omega)⟩
  add a o h h0 h1 := h.add hT hm a o h0 h1
  pop h := h.pop hm
  clr h := h.clr hm
  at_ i h := h.at_ hm i
  last h := h.last hm
  leng h := len_any h.log
  room h := room_any h.log (by have := hm.fits.lo; omega) (by have := hm.fits.lo; omega) (by have := hm.fits.lo; have := h.len; omega)
theorem newOk2 : NewOk2 := by
  intro c core w0 w mb mv bs F hT hg hM hv hm h0 h1 hb hF
  have hcm := tt.core_mul hm.fits core h0 h1
  have hbl := hm.fits.bl
  refine (new_ok c core w mb mv bs F (hT.grown hg) hM hm h0 h1 hb hF).mono fun e w' ⟨lb, k1, k2, k3, k4⟩ => ⟨lb, Lg w0 c F mb mv lb, fun k => k = lb ∨ k = mb ∨ mv.ownBlock = some k, k1, impl hT hm, ?_, k4, fun k hk => ?_⟩
  · refine ⟨grown_trans hg k4, rfl, k2, hM.kept k4, Nat.le_trans hg.size k3, hv, by simp; have := hm.fits.lo; omega, by omega, ?_, by omega, Stands.nil _ _⟩
    rw [hb, ← hF]
    unfold Cfg.data
    omega
  · rcases hk with h | h | h
    · exact .inr (.inr (by omega))
    · exact .inl h
    · exact .inr (.inl h)
end Go.Proofs.YtfjjmlmkpdpdfaaDoor.ud
