/-
  Marks as plain data; a map of them in memory: what clear makes of it, its keys: definitions and laws. No condition but what each theorem names.
-/
import Derived.Test.YtinogiidiommkaaGreatDoorMp
import Derived.Lib.SlKeysI
namespace Go.Proofs.YtinogiidiommkaaGreatDoor.mrk
open Go Go.RowKit Go.MapKept Go.Maps
open Go.Proofs.YtinogiidiommkaaGreatDoor.tt (grown_refl grown_alloc grown_trans lt_of ik MapIs MapAt mput mdel ik_inj ik_key nodup_at istamp_at grown_mapI)
set_option linter.unusedVariables false

/-- Which blocks are marked as read, which as written. -/
structure Ms where
  r : Int → Bool
  w : Int → Bool
def Ms.zero : Ms := ⟨fun _ => false, fun _ => false⟩
def Ms.rd (s : Ms) (b : Int) : Ms := ⟨fun x => if x = b then true else s.r x, s.w⟩
def Ms.wr (s : Ms) (b : Int) : Ms := ⟨s.r, fun x => if x = b then true else s.w x⟩
def Ms.any (s : Ms) (b : Int) : Bool := s.r b || s.w b
def mv (r w : Bool) : Int := (if r then 1 else 0) + (if w then 2 else 0)
def Ms.v (s : Ms) (b : Int) : Int := mv (s.r b) (s.w b)
def mf (s : Ms) : Int → Option Value := fun b => if s.any b = true then some (.int .u8 (s.v b)) else none
theorem mf_get (s : Ms) (b : Int) : (mf s b).getD (.int .u8 0) = .int .u8 (s.v b) := by
  unfold mf Ms.v Ms.any
  cases s.r b <;> cases s.w b <;> rfl
theorem mf_isSome (s : Ms) (b : Int) : (mf s b).isSome = s.any b := by
  unfold mf
  cases s.any b <;> rfl
theorem mf_zero : mf Ms.zero = fun _ => none := rfl
theorem mput_rd (s : Ms) (b : Int) : mput (mf s) b (.int .u8 (mv true (s.w b))) = mf (s.rd b) := by
  funext x
  by_cases h : x = b
  · subst h; simp [mput, mf, Ms.rd, Ms.any, Ms.v]
  · simp [mput, mf, Ms.rd, Ms.any, Ms.v, h]
theorem mput_wr (s : Ms) (b : Int) : mput (mf s) b (.int .u8 (mv (s.r b) true)) = mf (s.wr b) := by
  funext x
  by_cases h : x = b
  · subst h; simp [mput, mf, Ms.wr, Ms.any, Ms.v]
  · simp [mput, mf, Ms.wr, Ms.any, Ms.v, h]
/-- Only data blocks are marked. -/
def Dom (n : Int) (s : Ms) : Prop := ∀ b, s.any b = true → 0 ≤ b ∧ b < n
theorem dom_zero (n : Int) : Dom n Ms.zero := fun b h => by cases h
theorem dom_rd {n : Int} {s : Ms} {b : Int} (h : Dom n s) (hb : 0 ≤ b ∧ b < n) : Dom n (s.rd b) := fun x hx => by
  by_cases e : x = b
  · subst e; exact hb
  · refine h x ?_
    simpa [Ms.rd, Ms.any, e] using hx
theorem dom_wr {n : Int} {s : Ms} {b : Int} (h : Dom n s) (hb : 0 ≤ b ∧ b < n) : Dom n (s.wr b) := fun x hx => by
  by_cases e : x = b
  · subst e; exact hb
  · refine h x ?_
    simpa [Ms.wr, Ms.any, e] using hx
theorem dom_out {n : Int} {s : Ms} {b : Int} (h : Dom n s) (hb : b < 0 ∨ n ≤ b) : s.r b = false ∧ s.w b = false := by
  have : ¬ s.any b = true := fun e => by have := h b e; omega
  simpa [Ms.any] using this
/-- The blocks that are marked, rising. -/
def keys (N : Nat) (s : Ms) : List Int := ((List.range N).map fun (k : Nat) => (k : Int)).filter s.any
theorem keys_mem {N : Nat} {s : Ms} (h : Dom (N : Int) s) (b : Int) : b ∈ keys N s ↔ s.any b = true := by
  unfold keys
  rw [List.mem_filter, List.mem_map]
  constructor
  · exact fun h => h.2
  · intro hb
    have := h b hb
    exact ⟨⟨b.toNat, List.mem_range.2 (by omega), by omega⟩, hb⟩
theorem keys_rising (N : Nat) (s : Ms) : (keys N s).Pairwise (· < ·) := by
  unfold keys
  refine List.Pairwise.filter _ (List.pairwise_map.2 ?_)
  exact List.Pairwise.imp (fun h => by omega) List.pairwise_lt_range
theorem keys_nodup (N : Nat) (s : Ms) : (keys N s).Nodup := List.Pairwise.imp (fun h => by omega) (keys_rising N s)
theorem keys_len (N : Nat) (s : Ms) : (keys N s).length ≤ N := by
  unfold keys
  have := List.length_filter_le s.any ((List.range N).map fun (k : Nat) => (k : Int))
  simpa using this
theorem keys_zero (N : Nat) : keys N Ms.zero = [] := by
  unfold keys
  rw [List.filter_eq_nil_iff]
  intro x _ h
  cases h
/-- What is sorted is these. -/
theorem keys_sorted {N : Nat} {s : Ms} {l : List Int} (h : l.Perm (keys N s)) : l.mergeSort (fun x y => decide (x ≤ y)) = keys N s := by
  rw [show l.mergeSort (fun x y => decide (x ≤ y)) = (keys N s).mergeSort (fun x y => decide (x ≤ y)) from mergeSort_of_perm_i h]
  refine List.mergeSort_of_pairwise ?_
  exact List.Pairwise.imp (fun h => by simp; omega) (keys_rising N s)

theorem insert_perm {H : Type} (x : Lit × DataW H) : ∀ l : List (Lit × DataW H), (DataW.insert x l).Perm (x :: l)
  | [] => List.Perm.refl _
  | y :: r => by
    unfold DataW.insert
    split
    · exact List.Perm.refl _
    · exact ((insert_perm x r).cons y).trans (List.Perm.swap x y r)
theorem sorted_perm {H : Type} : ∀ l : List (Lit × DataW H), (l.foldr DataW.insert []).Perm l
  | [] => List.Perm.refl _
  | x :: r => (insert_perm x _).trans ((sorted_perm r).cons x)
/-- The map, in the words of the laws on its keys. -/
theorem MapAt.owns {P : Program} (h3 : P.underlying 3 = some (.int .i64)) {w : World} {b N : Nat} {s : Ms} (h : MapAt w b (mf s)) (hd : Dom (N : Int) s) (hN : N ≤ 65536) :
    ∃ D : DataW Unit, w.ownsMap P 3 (fun _ => some (.nil, [])) b N D ∧ Maps.size D ≤ N ∧ (intKeys D).Perm (keys N s) := by
  obtain ⟨es, c, hb, hs, hi⟩ := h
  have hk : ∀ x ∈ es.toList, ∃ k, x.key = ik k ∧ (Lit.int .i64 k).wf = true ∧ s.any k = true := fun x hx => by
    obtain ⟨k, hk⟩ := hi.keys x hx
    have hm : mf s k = some x.val := (hi.at_ k x.val).2 ⟨x, hx, hk, rfl⟩
    have ha : s.any k = true := by rw [← mf_isSome, hm]; rfl
    have := hd k ha
    exact ⟨k, hk, WalkArith.wf_i64 ⟨by omega, by omega⟩, ha⟩
  have hrg : ∀ x ∈ es.toList, ∀ k, x.key = ik k → (Lit.int .i64 k).wf = true → WideElems.rd P 3 (fun _ => some ((.nil : DataW Unit), [])) x = some (.int .i64 k, .nil) := fun x hx k hk hw => by
    unfold WideElems.rd
    rw [hk, show keyOf P 3 (ik k) = some (.int .i64 k) from Maps.keyOf_int_mk h3 hw]
    rfl
  have hks : (es.toList.map fun x => intOf (WideElems.rg P 3 (fun _ => some ((.nil : DataW Unit), [])) x).1) = es.toList.map fun x => match x.key with | .int _ k => k | _ => 0 := by
    refine List.map_congr_left fun x hx => ?_
    obtain ⟨k, hk, hw, _⟩ := hk x hx
    rw [WideElems.rg_of (hrg x hx k hk hw), hk]; rfl
  have hnd : (es.toList.map fun x => match x.key with | .int _ k => k | _ => (0 : Int)).Nodup := by
    have hkk : (es.toList.map (·.key)) = (es.toList.map (fun x => match x.key with | .int _ k => k | _ => (0 : Int))).map ik := by
      rw [List.map_map]
      refine List.map_congr_left fun x hx => ?_
      obtain ⟨k, hk, _⟩ := hk x hx
      simp [hk, ik]
    have := hs.2.2
    rw [hkk] at this
    exact List.Pairwise.of_map ik (fun a b h e => h (by rw [e])) this
  have hperm : (es.toList.map fun x => match x.key with | .int _ k => k | _ => (0 : Int)).Perm (keys N s) := by
    rw [List.perm_ext_iff_of_nodup hnd (keys_nodup N s)]
    intro k
    rw [keys_mem hd, List.mem_map]
    constructor
    · rintro ⟨x, hx, rfl⟩
      obtain ⟨k, hk, _, ha⟩ := hk x hx
      rw [hk]; exact ha
    · intro ha
      rw [← mf_isSome] at ha
      obtain ⟨v, hv⟩ := Option.isSome_iff_exists.1 ha
      obtain ⟨x, hx, hxk, _⟩ := (hi.at_ k v).1 hv
      exact ⟨x, hx, by rw [hxk]; rfl⟩
  have hlen : es.size ≤ N := by
    have := hperm.length_eq
    have := keys_len N s
    simp at *
    omega
  refine ⟨.map ((es.toList.map (WideElems.rg P 3 (fun _ => some ((.nil : DataW Unit), [])))).foldr DataW.insert []), ⟨es, c, hb, ⟨by unfold maxLen; omega, hs, fun x hx => ?_⟩, hlen, rfl⟩, ?_, ?_⟩
  · obtain ⟨k, hk, hw, _⟩ := hk x hx
    exact ⟨_, hrg x hx k hk hw⟩
  · rw [Maps.size_eq, length_sorted]; simpa using hlen
  · refine List.Perm.trans ?_ hperm
    rw [← hks]
    show (List.map (fun (p : Lit × DataW Unit) => intOf p.1) _).Perm _
    refine ((sorted_perm _).map _).trans ?_
    rw [List.map_map]
    exact List.Perm.refl _

section
variable {P : Program} {w : World} {b : Nat} {f : Int → Option Value} {mt e : TypeId} (hm : P.underlying mt = some (.map 3 e))
include hm
theorem run_clear_map (h : MapAt w b f) (ty : TypeId) : ∃ w', (Builtin.clear_ #[mt] ty #[.map (some b)]).run P w = .ok (.tuple #[]) w' ∧ MapAt w' b (fun _ => none) ∧ w.grownBy w' (some b) := by
  obtain ⟨es, c, hb, hs, hi⟩ := h
  refine ⟨_, by simp [Builtin.clear_, run_underlying hm, Go.MapKept.run_getObj_map hb, Go.MapKept.run_setObj_map _ hb, Result.andThen] <;> rfl, ⟨#[], _, (Go.MapKept.heap_set hb).1, Go.MapKept.stamped_empty _, ⟨fun x hx => by simp at hx, fun k v => by simp⟩⟩, grown_mapI hb _⟩
end
section
variable {F : Fence} {n : Nat} {P : Program} {w : World} {ops : Array Oper} {rest : List Oper} {a : Act} {Q : Exit → Act → World → Prop} {dst : Option Tmp} {ty : TypeId} {pos : String} {after : Array Edge}
theorem map_clear (mt e : TypeId) (hm : P.underlying mt = some (.map 3 e)) (m : Operand) (b : Nat) (f : Int → Option Value) (ha : a.eval m = .map (some b)) (hM : MapAt w b f)
    (h : ∀ w', MapAt w' b (fun _ => none) → w.grownBy w' (some b) → wpList P ops Q rest (a.put dst (.tuple #[])) w') : wpList P ops Q (⟨dst, .call { callee := .builtin .clear, args := #[m], argTypes := #[mt] }, ty, pos, after, none⟩ :: rest) a w := by
  refine wpList_plain rfl fun K' hK' => ?_
  obtain ⟨w', hrun, r1, r2⟩ := run_clear_map hm hM ty
  unfold Oper.wp execOp
  simp only [resolve, invoke, builtin, Sem.run_bind, Sem.run_pure, Result.andThen_ok, List.map_toArray, List.map_cons, List.map_nil, ha, hrun]
  exact hK' _ _ (h w' r1 r2)
end
end Go.Proofs.YtinogiidiommkaaGreatDoor.mrk
