/-
  The landed log and the document's, side by side: each call leaves the other's alone. No condition but the bounds that each theorem names.
-/
import Derived.Test.YtfjjmlmkpdpdfaaDoorUdL
namespace Go.Proofs.YtfjjmlmkpdpdfaaDoor.ud
open Go Go.RowKit
open Go.Proofs.YtfjjmlmkpdpdfaaDoor.tt (Cfg Tab trip CfgAt)
open Go.Proofs.YtfjjmlmkpdpdfaaDoor.pp (RMem Mem grown_refl grown_trans grown_alloc)
open Go.Proofs.YtfjjmlmkpdpdfaaDoor.sl (Sl flat)
set_option linter.unusedVariables false

section
variable {w w' : World} {b : Nat} {rv : Value} {c : Cfg} {core : Int} {es : List (Int × Int)} {mb : Nat} {mv : Value} {bs : List (List Int)} {p : Nat → Prop}
theorem RLog.fr (h : RLog w b rv c core es) (hg : Fr w w' p) (hb : ¬ p b) (hv : ∀ k, rv.ownBlock = some k → ¬ p k) : RLog w' b rv c core es := ⟨(hg.block b h.lt hb).trans h.blk, h.sl.of_block fun k hk => hg.block k (h.sl.lt k hk) (hv k hk)⟩
theorem rmem_fr (h : RMem w mb mv bs) (hg : Fr w w' p) (hb : ¬ p mb) (hv : ∀ k, mv.ownBlock = some k → ¬ p k) : RMem w' mb mv bs := ⟨(hg.block mb h.lt hb).trans h.blk, h.sl.of_block fun k hk => hg.block k (h.sl.lt k hk) (hv k hk), h.len, h.few⟩
end
/-- The landed log holds es over bs, the document's es2 over bs2. -/
structure Bo (S : World → (Nat → Prop) → List (Int × Int) → List (List Int) → Prop) (c : Cfg) (core : Int) (B b rmb : Nat) (rmv : Value) (w : World) (P : Nat → Prop) (es : List (Int × Int)) (bs : List (List Int)) (rv : Value) (es2 : List (Int × Int)) (bs2 : List (List Int)) : Prop where
  st : S w P es bs
  rl : RLog w b rv c core es2
  rm : RMem w rmb rmv bs2
  no : ∀ k, (k = b ∨ rv.ownBlock = some k ∨ k = rmb ∨ rmv.ownBlock = some k) → ¬ P k ∧ B ≤ k
section
variable {w0 : World} {c : Cfg} {core : Int} {F mb : Nat} {mv : Value} {lb : Nat} {S : World → (Nat → Prop) → List (Int × Int) → List (List Int) → Prop} {b rmb : Nat} {rmv rv rv' : Value} {w w' : World} {P P' : Nat → Prop} {es es' es2 es2' : List (Int × Int)} {bs bs' bs2 bs2' : List (List Int)}
theorem Bo.grown (I : Impl w0 c F mb mv lb S) (h : Bo S c core w0.heap.size b rmb rmv w P es bs rv es2 bs2) (hg : w.grownBy w' none) : Bo S c core w0.heap.size b rmb rmv w' P es bs rv es2 bs2 := ⟨I.grown h.st hg, h.rl.grown hg, h.rm.kept hg, h.no⟩
theorem Bo.lt (h : Bo S c core w0.heap.size b rmb rmv w P es bs rv es2 bs2) : ∀ k, (k = b ∨ rv.ownBlock = some k ∨ k = rmb ∨ rmv.ownBlock = some k) → k < w.heap.size := fun k hk => by
  rcases hk with rfl | hk | rfl | hk
  · exact h.rl.lt
  · exact h.rl.sl.lt k hk
  · exact h.rm.lt
  · exact h.rm.sl.lt k hk
/-- A call of the landed log. -/
theorem Bo.mine (h : Bo S c core w0.heap.size b rmb rmv w P es bs rv es2 bs2) (hs : S w' P' es' bs') (hx : Nx w w' P P') : Bo S c core w0.heap.size b rmb rmv w' P' es' bs' rv es2 bs2 :=
  ⟨hs, h.rl.fr hx.fr (h.no b (.inl rfl)).1 (fun k hk => (h.no k (.inr (.inl hk))).1), rmem_fr h.rm hx.fr (h.no rmb (.inr (.inr (.inl rfl)))).1 (fun k hk => (h.no k (.inr (.inr (.inr hk)))).1),
   fun k hk => ⟨fun hp => by rcases hx.nx k hp with h1 | h1; exact (h.no k hk).1 h1; have := h.lt k hk; omega, (h.no k hk).2⟩⟩
/-- A call of the document's log. -/
theorem Bo.theirs (I : Impl w0 c F mb mv lb S) (h : Bo S c core w0.heap.size b rmb rmv w P es bs rv es2 bs2) (hl : RLog w' b rv' c core es2') (hm : RMem w' rmb rmv bs2') (hf : Fr w w' (fun k => k = b ∨ rmv.ownBlock = some k)) (hv : ∀ k, rv'.ownBlock = some k → rv.ownBlock = some k ∨ w.heap.size ≤ k) : Bo S c core w0.heap.size b rmb rmv w' P es bs rv' es2' bs2' := by
  refine ⟨I.aside h.st hf fun k hk => ?_, hl, hm, fun k hk => ?_⟩
  · rcases hk with rfl | hk
    · exact ⟨(h.no k (.inl rfl)).1, (h.no k (.inl rfl)).2, fun cs f e => pp.tyne h.rl.blk e (by decide) rfl⟩
    · obtain ⟨cur, hc⟩ := h.rm.bl k hk
      exact ⟨(h.no k (.inr (.inr (.inr hk)))).1, (h.no k (.inr (.inr (.inr hk)))).2, fun cs f e => pp.tyne hc e (by decide) rfl⟩
  · rcases hk with hk | hk | hk | hk
    · exact h.no k (.inl hk)
    · rcases hv k hk with h1 | h1
      · exact h.no k (.inr (.inl h1))
      · have h2 := (I.old h.st).size
        exact ⟨fun hp => by have := I.lt h.st k hp; omega, by omega⟩
    · exact h.no k (.inr (.inr (.inl hk)))
    · exact h.no k (.inr (.inr (.inr hk)))
theorem Bo.add_mine (I : Impl w0 c F mb mv lb S) (h : Bo S c core w0.heap.size b rmb rmv w P es bs rv es2 bs2) (a o : Int) (h0 : 0 ≤ a) (h1 : a < 4294967296) : Calls Tryd.prog 12 #[.pointer (some ⟨lb, 0, none⟩), .int .u32 a, .int .u32 o] w fun e w' => e = .returned (.int .i64 (addE c es a)) ∧ Fr w w' P ∧ ∃ P', Bo S c core w0.heap.size b rmb rmv w' P' (addL c es a o) (addB c F es bs a o) rv es2 bs2 :=
  (I.add a o h.st h0 h1).mono fun e w' ⟨he, P', hs, hx⟩ => ⟨he, hx.fr, P', h.mine hs hx⟩
theorem Bo.add_theirs (I : Impl w0 c F mb mv lb S) (h : Bo S c core w0.heap.size b rmb rmv w P es bs rv es2 bs2) (hm : c.may) (hc0 : 0 ≤ core) (hc1 : core < c.co) (hbs : (bs2.length : Int) = c.bl) (hF : c.data + core * c.lo = F) (hl : (es2.length : Int) ≤ 8 * c.lo) (a o : Int) (h0 : 0 ≤ a) (h1 : a < 4294967296) : Calls Tryd.prog 21 #[.pointer (some ⟨b, 0, none⟩), .pointer (some ⟨rmb, 0, none⟩), .int .u32 a, .int .u32 o] w fun e w' => e = .returned (.int .i64 (addE c es2 a)) ∧ Fr w w' (fun k => k = b ∨ rmv.ownBlock = some k) ∧ ∃ rv', Bo S c core w0.heap.size b rmb rmv w' P es bs rv' (addL c es2 a o) (addB c F es2 bs2 a o) := by
  unfold addL addB addE
  by_cases he : wErr c a = 0
  · rw [if_neg (by simp [he])]
    by_cases hf : (es2.length : Int) = 8 * c.lo
    · rw [if_pos hf, if_neg (by decide), if_neg (by decide)]
      exact (radd_full h.rl hm _ a o h0 h1 he hf).mono fun e w' ⟨k1, k2⟩ => ⟨k1, Fr.of_grown k2 (fun k e => by cases e), rv, h.grown I k2⟩
    · rw [if_neg hf, if_pos rfl, if_pos rfl]
      exact (radd_ok h.rl h.rm hm a o h0 h1 he (by omega) hc0 hc1 hbs F hF).mono fun e w' ⟨k1, v', k2, k3, k4, k5⟩ => ⟨k1, k4, v', h.theirs I k2 k3 k4 fun k hk => .inr (k5 k hk)⟩
  · rw [if_pos he, if_neg he, if_neg he]
    exact (radd_err h.rl hm _ a o h0 h1 he).mono fun e w' ⟨k1, k2⟩ => ⟨k1, Fr.of_grown k2 (fun k e => by cases e), rv, h.grown I k2⟩
theorem Bo.pop_mine (I : Impl w0 c F mb mv lb S) (h : Bo S c core w0.heap.size b rmb rmv w P es bs rv es2 bs2) : Calls Tryd.prog 14 #[.pointer (some ⟨lb, 0, none⟩)] w fun e w' => e = .returned (.int .i64 (if es = [] then 4 else 0)) ∧ Fr w w' P ∧ ∃ P', Bo S c core w0.heap.size b rmb rmv w' P' es.dropLast bs rv es2 bs2 :=
  (I.pop h.st).mono fun e w' ⟨he, P', hs, hx⟩ => ⟨he, hx.fr, P', h.mine hs hx⟩
theorem Bo.pop_theirs (I : Impl w0 c F mb mv lb S) (h : Bo S c core w0.heap.size b rmb rmv w P es bs rv es2 bs2) (hl : es2.length ≤ 32) : Calls Tryd.prog 22 #[.pointer (some ⟨b, 0, none⟩)] w fun e w' => e = .returned (.int .i64 (if es2 = [] then 4 else 0)) ∧ Fr w w' (fun k => k = b ∨ rmv.ownBlock = some k) ∧ ∃ rv', Bo S c core w0.heap.size b rmb rmv w' P es bs rv' es2.dropLast bs2 := by
  by_cases he : es2 = []
  · subst he
    rw [if_pos rfl]
    exact (rpop_none h.rl).mono fun e w' ⟨k1, k2⟩ => ⟨k1, by rw [← k2]; exact Fr.refl _ _, rv, by rw [← k2]; exact h⟩
  · rw [if_neg he]
    exact (rpop_some h.rl (List.length_pos_iff.2 he) hl).mono fun e w' ⟨k1, v', kv, k2, k3⟩ => ⟨k1, Fr.of_grown k3 (fun k e => .inl (Option.some.inj e).symm), v', h.theirs I k2 (h.rm.grown k3 fun k e => by cases e; exact ⟨_, _, _, h.rl.blk, by decide, by decide⟩) (Fr.of_grown k3 (fun k e => .inl (Option.some.inj e).symm)) fun k hk => .inl (by rw [← kv]; exact hk)⟩
theorem Bo.at_theirs (I : Impl w0 c F mb mv lb S) (h : Bo S c core w0.heap.size b rmb rmv w P es bs rv es2 bs2) (i : Int) : Calls Tryd.prog 24 #[.pointer (some ⟨b, 0, none⟩), .int .i64 i] w fun e w' => e = .returned (atV es2 i) ∧ w.grownBy w' none := by
  by_cases hi : 0 ≤ i ∧ i < es2.length
  · obtain ⟨k, rfl⟩ : ∃ k : Nat, i = k := ⟨i.toNat, by omega⟩
    obtain ⟨x, hx⟩ : ∃ x, es2[k]? = some x := ⟨_, List.getElem?_eq_getElem (by omega)⟩
    rw [atV_in es2 k x hx]
    exact rat_in h.rl k x hx
  · have e : atV es2 i = .tuple #[.int .u32 0, .int .u32 0, .int .i64 4] := if_neg hi
    rw [e]
    exact rat_out h.rl i (by omega)
end
end Go.Proofs.YtfjjmlmkpdpdfaaDoor.ud
