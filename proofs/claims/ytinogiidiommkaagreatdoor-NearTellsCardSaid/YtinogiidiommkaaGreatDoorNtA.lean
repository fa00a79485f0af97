/-
  The loop of the law NearTells, taken out of the translation; its invariant; what the core had last of each block, in a map. Conditions: the tables of bounds and of kinds lie in their variables as the program's text has them; that the script lies where the argument says.
-/
import Derived.Test.YtinogiidiommkaaGreatDoorGl
import Derived.Test.YtinogiidiommkaaGreatDoorNlV
import Derived.Test.YtinogiidiommkaaGreatDoorNrD
import Derived.Test.YtinogiidiommkaaGreatDoorMp
import Derived.Test.YtinogiidiommkaaGreatDoorMkD
namespace Go.Proofs.YtinogiidiommkaaGreatDoor.nl
open Go Go.ChangeShapes Go.WideShapes Go.ChangeAt Go.RowKit Go.Shelf
open Go.Proofs.YtinogiidiommkaaGreatDoor.nr
open Go.Proofs.YtinogiidiommkaaGreatDoor.tt (OpX opc OpsAt cfg_at CfgAt Cfg Nt na nt zn bare zd fits row tyne lt_of U Tab TabK grown_refl grown_trans grown_alloc grown_setCells grown_drew grown_drewN yes Sl Next flat)
open Go.Proofs.YtinogiidiommkaaGreatDoor.kk (Ln St zl la ln cfind cdrop cuse cgoes cwrite cturn cput setAt setOf live fF Shp Cac Kept)
open Go.Proofs.YtinogiidiommkaaGreatDoor.bk (Bk rem kills puts putE fd fl Nd Rg dead fresh BkAt)
open Go.Proofs.YtinogiidiommkaaGreatDoor.mrk (Ms rdS wrS meets addE Dom MkAt)
open Go.Proofs.YtinogiidiommkaaGreatDoor.de (Dl sT gE rF aD LAt)
open Go.Proofs.YtinogiidiommkaaGreatDoor.oo (ref)
open Go.Proofs.YtinogiidiommkaaGreatDoor.gl
open Go.Proofs.YtinogiidiommkaaGreatDoor.tt (MapAt mput ik)
set_option linter.unusedVariables false
set_option linter.unusedSimpArgs false
set_option maxRecDepth 1000000
set_option maxHeartbeats 16000000

theorem lit192 (u : Nat → Value) : ((List.range 192).map u).toArray = #[u 0, u 1, u 2, u 3, u 4, u 5, u 6, u 7, u 8, u 9, u 10, u 11, u 12, u 13, u 14, u 15, u 16, u 17, u 18, u 19, u 20, u 21, u 22, u 23, u 24, u 25, u 26, u 27, u 28, u 29, u 30, u 31, u 32, u 33, u 34, u 35, u 36, u 37, u 38, u 39, u 40, u 41, u 42, u 43, u 44, u 45, u 46, u 47, u 48, u 49, u 50, u 51, u 52, u 53, u 54, u 55, u 56, u 57, u 58, u 59, u 60, u 61, u 62, u 63, u 64, u 65, u 66, u 67, u 68, u 69, u 70, u 71, u 72, u 73, u 74, u 75, u 76, u 77, u 78, u 79, u 80, u 81, u 82, u 83, u 84, u 85, u 86, u 87, u 88, u 89, u 90, u 91, u 92, u 93, u 94, u 95, u 96, u 97, u 98, u 99, u 100, u 101, u 102, u 103, u 104, u 105, u 106, u 107, u 108, u 109, u 110, u 111, u 112, u 113, u 114, u 115, u 116, u 117, u 118, u 119, u 120, u 121, u 122, u 123, u 124, u 125, u 126, u 127, u 128, u 129, u 130, u 131, u 132, u 133, u 134, u 135, u 136, u 137, u 138, u 139, u 140, u 141, u 142, u 143, u 144, u 145, u 146, u 147, u 148, u 149, u 150, u 151, u 152, u 153, u 154, u 155, u 156, u 157, u 158, u 159, u 160, u 161, u 162, u 163, u 164, u 165, u 166, u 167, u 168, u 169, u 170, u 171, u 172, u 173, u 174, u 175, u 176, u 177, u 178, u 179, u 180, u 181, u 182, u 183, u 184, u 185, u 186, u 187, u 188, u 189, u 190, u 191] := rfl
theorem lit192_of {a : Act} (hs : a.tmps.size = 192) (hd : a.defers = []) : ∃ u : Nat → Value, a = ⟨#[u 0, u 1, u 2, u 3, u 4, u 5, u 6, u 7, u 8, u 9, u 10, u 11, u 12, u 13, u 14, u 15, u 16, u 17, u 18, u 19, u 20, u 21, u 22, u 23, u 24, u 25, u 26, u 27, u 28, u 29, u 30, u 31, u 32, u 33, u 34, u 35, u 36, u 37, u 38, u 39, u 40, u 41, u 42, u 43, u 44, u 45, u 46, u 47, u 48, u 49, u 50, u 51, u 52, u 53, u 54, u 55, u 56, u 57, u 58, u 59, u 60, u 61, u 62, u 63, u 64, u 65, u 66, u 67, u 68, u 69, u 70, u 71, u 72, u 73, u 74, u 75, u 76, u 77, u 78, u 79, u 80, u 81, u 82, u 83, u 84, u 85, u 86, u 87, u 88, u 89, u 90, u 91, u 92, u 93, u 94, u 95, u 96, u 97, u 98, u 99, u 100, u 101, u 102, u 103, u 104, u 105, u 106, u 107, u 108, u 109, u 110, u 111, u 112, u 113, u 114, u 115, u 116, u 117, u 118, u 119, u 120, u 121, u 122, u 123, u 124, u 125, u 126, u 127, u 128, u 129, u 130, u 131, u 132, u 133, u 134, u 135, u 136, u 137, u 138, u 139, u 140, u 141, u 142, u 143, u 144, u 145, u 146, u 147, u 148, u 149, u 150, u 151, u 152, u 153, u 154, u 155, u 156, u 157, u 158, u 159, u 160, u 161, u 162, u 163, u 164, u 165, u 166, u 167, u 168, u 169, u 170, u 171, u 172, u 173, u 174, u 175, u 176, u 177, u 178, u 179, u 180, u 181, u 182, u 183, u 184, u 185, u 186, u 187, u 188, u 189, u 190, u 191], []⟩ ∧ ∀ i, a.tmps.getD i undef = u i :=
  ⟨slots a, by
    have e := tmps_of hs
    rw [lit192] at e
    obtain ⟨t, d⟩ := a
    have hd : d = [] := hd
    have e : t = _ := e
    subst hd
    rw [← e], fun _ => rfl⟩
noncomputable def tellsBody : Code := ((Tryz.f6.body.bind firstLoop).getD .skip)
noncomputable def tellsR29 : Code := ((fromRegion 29 tellsBody).map firstOf).getD .skip
noncomputable def tellsOut : Code := ((fromRegion 29 tellsBody).map restOf).getD .skip
noncomputable def tellsR35 : Code := (fromRegion 35 tellsBody).getD .skip
noncomputable def tellsEnd : Code := (fromRegion 43 tellsBody).getD .skip
/-- A map of blocks: F tells each, zeros where there is none. -/
structure Has (w : World) (M : Nat) (L : LL) (F : Int → List Int) : Prop where
  mp : ∃ mf, MapAt w M mf ∧ ∀ b, (mf b).getD (.agg (row zd)) = .agg (row (F b))
  ln : ∀ b, (F b).length = 16
  nm : M ≠ L.mb
theorem zeroB (w : World) : (zeroValue 35).run Tryz.prog w = .ok (.agg (row zd)) w := Tryz.zeroValue35 w
section
variable {w w' : World} {M : Nat} {L : LL} {F : Int → List Int} (h : Has w M L F)
include h
theorem Has.tz : tz w M := by
  obtain ⟨mf, ⟨es, cl, h1, _⟩, _⟩ := h.mp
  exact ⟨_, _, h1⟩
theorem Has.lt : M < w.heap.size := by
  obtain ⟨mf, hm, _⟩ := h.mp
  exact hm.lt
theorem Has.same (hb : w'.heap[M]? = w.heap[M]?) : Has w' M L F := by
  obtain ⟨mf, hm, hf⟩ := h.mp
  exact ⟨⟨mf, hm.same hb, hf⟩, h.ln, h.nm⟩
theorem Has.grown (hg : w.grownBy w' none) : Has w' M L F := h.same (hg.block _ h.lt (by simp))
theorem Has.far (f : Far L w w') : Has w' M L F := by
  obtain ⟨es, cl, h1⟩ := h.tz
  exact h.same ((f.mp _ _ _ h1 h.nm).trans h1.symm)
theorem Has.look (k : Int) : (Instr.lookup 90 (.map (some M)) (.int .i64 k) false).run Tryz.prog w = .ok (.agg (row (F k))) w := by
  obtain ⟨mf, hm, hf⟩ := h.mp
  rw [tt.run_lookup_map Tryz.underlying90 Tryz.underlying3 hm (zeroB w) k, hf k]
theorem Has.put {k : Int} {d : List Int} (hd : d.length = 16) : ∀ mf, (∀ b, (mf b).getD (.agg (row zd)) = .agg (row (F b))) → MapAt w' M (mput mf k (.agg (row d))) → Has w' M L (fun y => if y = k then d else F y) := fun mf hf hm =>
  ⟨⟨_, hm, fun b => by
    unfold tt.mput
    by_cases hb : b = k
    · simp [hb]
    · simp only [if_neg hb]; exact hf b⟩, fun b => by show (if b = k then d else F b).length = 16; split; exact hd; exact h.ln b, h.nm⟩
end
/-- The map's own block is written: the near stands. -/
theorem Own.map {wb w w' : World} {L : LL} {P : Pm} {k : Nr} {M : Nat} (o : Own wb w L P k) (hg : w.grownBy w' (some M)) (hz : tz w M) (hn : M ≠ L.mb) (h0 : wb.heap.size ≤ M) : Own wb w' L P k := by
  obtain ⟨v, bs, hl, hs, hi⟩ := o.ex
  have hno : ¬ ({ L with bv := v } : LL).any M := by
    rintro (e | (e | e | ⟨q, hq, e⟩) | (e | e | e) | (e | e) | e)
    · exact ty_nz hl.tq hz e.symm
    · exact ty_nz hl.tc hz e.symm
    · exact ty_nz hl.ts hz e.symm
    · exact ty_nz (hl.tr hq) hz e
    · exact ty_nz hl.tt' hz e.symm
    · exact ty_nz hl.tp hz e.symm
    · exact ty_nz (hl.tv e) hz rfl
    · exact ty_nz hl.tm hz e.symm
    · exact hn e
    · exact ty_nz hl.td hz e.symm
  have hcell : ∀ (g j : Nat) (x : Value), w.cell? ⟨g, j, none⟩ = some x → g ≠ M := fun g j x hx e => by
    subst e
    obtain ⟨es, cl, hm⟩ := hz
    unfold World.cell? at hx
    rw [hm] at hx
    cases hx
  have hb1 : (0 : Nat) ≠ M := hcell _ _ _ (hl.tb.b 0 (by decide)).1
  have hb2 : (1 : Nat) ≠ M := hcell _ _ _ (hl.tb.k 0 (by decide))
  refine ⟨⟨v, bs, hl.same (fun g ha => hg.block g (hl.lt ha) (by intro e; cases e; exact hno ha)) (hl.tb.same (hg.block _ hl.tb.lb (by intro e; exact hb1 (Option.some.inj e))) (hg.block _ hl.tb.lk (by intro e; exact hb2 (Option.some.inj e)))), hs, hi⟩, ?_⟩
  exact ⟨hg.os.trans o.old.os, hg.tape.trans o.old.tape, hg.output.trans o.old.output, Nat.le_trans o.old.size hg.size, fun i hi2 hn2 => (hg.block i (Nat.lt_of_lt_of_le hi2 o.old.size) (by intro e; cases e; omega)).trans (o.old.block i hi2 hn2)⟩
theorem St.map {wb w w' : World} {L : LL} {P : Pm} {k : Nr} {X : Nat} {q : OpX} {Ns : List (Nat × Nt)} {M : Nat} (s : St wb w L P k X q Ns) (hg : w.grownBy w' (some M)) (hz : tz w M) (hn : M ≠ L.mb) (h0 : wb.heap.size ≤ M) : St wb w' L P k X q Ns := by
  have hne : ∀ {g : Nat} {cs : Array Value} {t : TypeId} {fr : Nat × Nat}, w.heap[g]? = some (.cells cs t fr) → w'.heap[g]? = w.heap[g]? := fun {g cs t fr} hb => hg.block g (lt_of hb) (by
    intro e
    cases e
    obtain ⟨es, cl, hm⟩ := hz
    rw [hm] at hb
    cases hb)
  exact ⟨s.own.map hg hz hn h0, (hne s.bx).trans s.bx, fun p hp => (hne (s.ns p hp)).trans (s.ns p hp)⟩
section
variable {w : World} {ops : Array Oper} {rest : List Oper} {a : Act} {Q : Exit → Act → World → Prop} {dst : Option Tmp} {ty : TypeId} {pos : String} {after : Array Edge}
/-- A block into the variable that was made last. -/
theorem store_bN (d d' : List Int) (hd : d.length = 16) (hd' : d'.length = 16) (x y : Tmp) (hx : a.eval (.tmp x) = .pointer (some ⟨w.heap.size, 0, none⟩)) (hy : a.eval (.tmp y) = .agg (row d))
    (h : wpList Tryz.prog ops Q rest (a.put dst undef) (w.alloc (.cells (row d) 35))) : wpList Tryz.prog ops Q (⟨dst, .store 35 (.tmp x) (.tmp y), ty, pos, after, none⟩ :: rest) a (w.alloc (.cells (row d') 35)) := by
  have hs : (row d).size = 16 := by simp [tt.row, hd]
  have hs' : (row d').size = 16 := by simp [tt.row, hd']
  refine wpList_store_row rfl 35 (.tmp x) (.tmp y) rfl w.heap.size (row d) hx hy 35 _ (heap_alloc_new _ _) (by rw [hs]; exact infoB) (by rw [hs, hs']) (all_oneCell_toArray (fun v hv => by obtain ⟨x, _, rfl⟩ := List.mem_map.1 hv; rfl)) ?_
  rw [World.setRow_alloc_new]; exact h
theorem store_bZ (d : List Int) (hd : d.length = 16) (x y : Tmp) (hx : a.eval (.tmp x) = .pointer (some ⟨w.heap.size, 0, none⟩)) (hy : a.eval (.tmp y) = .agg (row d))
    (h : wpList Tryz.prog ops Q rest (a.put dst undef) (w.alloc (.cells (row d) 35))) : wpList Tryz.prog ops Q (⟨dst, .store 35 (.tmp x) (.tmp y), ty, pos, after, none⟩ :: rest) a (w.alloc (.cells #[.int .u32 0, .int .u32 0, .int .u32 0, .int .u32 0, .int .u32 0, .int .u32 0, .int .u32 0, .int .u32 0, .int .u32 0, .int .u32 0, .int .u32 0, .int .u32 0, .int .u32 0, .int .u32 0, .int .u32 0, .int .u32 0] 35)) :=
  store_bN d zd hd rfl x y hx hy h
/-- A block into the map. -/
theorem store_has {M : Nat} {L : LL} {F : Int → List Int} (hH : Has w M L F) (d : List Int) (hd : d.length = 16) (k : Int) (m x y : Tmp) (ha : a.eval (.tmp m) = .map (some M)) (hx : a.eval (.tmp x) = .int .i64 k) (hy : a.eval (.tmp y) = .agg (row d))
    (h : ∀ w', Has w' M L (fun y => if y = k then d else F y) → w.grownBy w' (some M) → wpList Tryz.prog ops Q rest (a.put dst undef) w') : wpList Tryz.prog ops Q (⟨dst, .mapUpdate 90 (.tmp m) (.tmp x) (.tmp y), ty, pos, after, none⟩ :: rest) a w := by
  obtain ⟨mf, hm, hf⟩ := hH.mp
  exact tt.map_store 90 35 Tryz.underlying90 Tryz.underlying3 _ _ _ M mf k (.agg (row d)) ha hx hy hm (fun w' h1 h2 => h w' (hH.put hd mf hf h1) h2)
end
theorem neB (d : List Int) (hd : d.length = 16) (w : World) : (binOp .neq 35 (.agg (row d)) (.agg (row d))).run Tryz.prog w = .ok (.bool false) w := by
  rw [run_neq_struct, kk.eq34k 10000 (by omega) w d d hd hd]
  simp
/-- What every round finds. -/
def TI (wb : World) (L : LL) (P : Pm) (len cap : Nat) (ad : Option Addr) (CB M : Nat) (a : Act) (w : World) : Prop :=
  a.tmps.size = 192 ∧ a.defers = [] ∧ a.tmps.getD 1 undef = .int .i64 P.core ∧ a.tmps.getD 3 undef = .pointer (some ⟨CB, 0, none⟩) ∧ a.tmps.getD 7 undef = .pointer (some ⟨L.q, 0, none⟩) ∧ a.tmps.getD 9 undef = .map (some M) ∧ a.tmps.getD 41 undef = .slice ad len cap ∧ a.tmps.getD 42 undef = .int .i64 (len : Int) ∧
    ∃ (j : Nat) (k : Nr) (F : Int → List Int), j ≤ len ∧ a.tmps.getD 43 undef = .int .i64 (j : Int) ∧ Own wb w L P k ∧ Inv P k ∧ Has w M L F ∧ Tel P k F
def Mt (len : Nat) (a : Act) : Nat := len - (vi (a.tmps.getD 43 undef)).toNat
end Go.Proofs.YtinogiidiommkaaGreatDoor.nl
