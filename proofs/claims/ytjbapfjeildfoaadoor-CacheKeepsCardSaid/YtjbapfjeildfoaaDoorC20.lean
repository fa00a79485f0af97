/-
  The law CacheKeeps returns true: the walk. Condition: the table of bounds lies in its variable as the program's text has it; that the script has its calls.
-/
import Derived.Test.YtjbapfjeildfoaaDoorIt
import Derived.Test.YtjbapfjeildfoaaDoorC15
namespace Go.Proofs.YtjbapfjeildfoaaDoor.kk
open Go Go.ChangeShapes Go.WideShapes Go.ChangeAt Go.RowKit Go.Shelf
set_option linter.unusedVariables false

set_option maxHeartbeats 1000000 in
theorem keeps_long (c : Cfg) (os : List OpX) (ad : Option Addr) (len cap : Nat) (w : World) (hT : Tab w) (h : 300 < len) :
    Calls Tryd.prog 6 #[.agg c.cells, .slice ad len cap] w fun e w' => e = .returned (.bool true) ∧ w.grownBy w' none := by
  have hd : decide ((300 : Int) < (len : Int)) = true := by simp; omega
  have hg0 : w.grownBy (w.alloc (.cells c.cells 27)) none := grown_alloc (grown_refl _ _) _
  have HW := Lib.hid (works_any _ (hT.grown hg0))
  have HG0 := Lib.hid hg0
  clear hT h hg0
  unfold Cfg.cells at *
  go_enter Tryd.func6, Tryd.ntmps6
  go_wp2_with (go_at_call 10; ((refine HW.out.mono ?_); rintro e w3 ⟨rfl, hg3⟩; have HG3 := Lib.hid hg3; clear hg3))
  go_ret
  exact ⟨rfl, grown_trans HG0.out HG3.out⟩
set_option maxHeartbeats 1000000 in
theorem keeps_no (c : Cfg) (os : List OpX) (ad : Option Addr) (len cap : Nat) (w : World) (hT : Tab w) (h : len ≤ 300) (hm : ¬ c.may) :
    Calls Tryd.prog 6 #[.agg c.cells, .slice ad len cap] w fun e w' => e = .returned (.bool true) ∧ w.grownBy w' none := by
  have hd : decide ((300 : Int) < (len : Int)) = false := by simp; omega
  have hg0 : w.grownBy (w.alloc (.cells c.cells 27)) none := grown_alloc (grown_refl _ _) _
  have HN := Lib.hid (new_no c _ (hT.grown hg0) hm)
  have HW : Hid (∀ w', (w.alloc (.cells c.cells 27)).grownBy w' none → _) := Lib.hid (fun w' h => works_any w' (hT.grown (grown_trans hg0 h)))
  obtain ⟨c0, c1, c2, c3, c4, c5, c6, c7⟩ := cfg_at w c
  have HG0 := Lib.hid hg0
  clear hT h hm hg0
  unfold Cfg.cells at *
  go_enter Tryd.func6, Tryd.ntmps6
  go_wp2_with (first
    | (go_at_call 8; ((with_reducible refine HN.out.mono ?_); rintro e w2 ⟨rfl, hg2⟩; have HG2 := Lib.hid hg2; clear hg2))
    | (go_at_call 10; ((refine (HW.out _ HG2.out).mono ?_); rintro e w3 ⟨rfl, hg3⟩; have HG3 := Lib.hid hg3; clear hg3)))
  go_ret
  exact ⟨rfl, grown_trans HG0.out (grown_trans HG2.out HG3.out)⟩

/-- The cache, and the map of its lines beside it. -/
structure Kps (w wr : World) (K : Loc) (c : Cfg) (ss : List St) (M : Nat) : Prop where
  run : Run w wr K c ss
  map : MapAt wr M (vl (fF c ss))
  le : w.heap.size ≤ M
theorem Kps.more {w w1 w2 : World} {K : Loc} {c : Cfg} {ss : List St} {M : Nat} (h : Kps w w1 K c ss M) (hg : w1.grownBy w2 none) : Kps w w2 K c ss M := ⟨h.run.more hg, h.map.same (hg.block M h.map.lt (by simp)), h.le⟩
/-- Behind a call that leaves all as it finds it. -/
theorem Kps.like {w w1 w2 : World} {K : Loc} {c : Cfg} {ss ss' : List St} {M : Nat} (h : Kps w w1 K c ss M) (hc : Cac w2 K c ss') (hk : Kept K.own w1 w2) (hi : Inv c ss') (hf : fF c ss' = fF c ss) : Kps w w2 K c ss' M :=
  ⟨h.run.next hc hk hi, by rw [hf]; exact h.map.kept h.run.go.cac hk, h.le⟩
/-- Behind a call that turns the cache, the map as it was; then a store turns the map. -/
structure Kpb (w wr : World) (K : Loc) (c : Cfg) (ss ss' : List St) (M : Nat) : Prop where
  run : Run w wr K c ss'
  map : MapAt wr M (vl (fF c ss))
  le : w.heap.size ≤ M
theorem Kps.turn {w w1 w2 : World} {K : Loc} {c : Cfg} {ss ss' : List St} {M : Nat} (h : Kps w w1 K c ss M) (hc : Cac w2 K c ss') (hk : Kept K.own w1 w2) (hi : Inv c ss') : Kpb w w2 K c ss ss' M :=
  ⟨h.run.next hc hk hi, h.map.kept h.run.go.cac hk, h.le⟩
theorem Kpb.more {w w1 w2 : World} {K : Loc} {c : Cfg} {ss ss' : List St} {M : Nat} (h : Kpb w w1 K c ss ss' M) (hg : w1.grownBy w2 none) : Kpb w w2 K c ss ss' M := ⟨h.run.more hg, h.map.same (hg.block M h.map.lt (by simp)), h.le⟩
theorem Kpb.store {w w1 w2 : World} {K : Loc} {c : Cfg} {ss ss' : List St} {M : Nat} {f : Int → Option Value} (h : Kpb w w1 K c ss ss' M) (hm : MapAt w2 M f) (hg : w1.grownBy w2 (some M)) (hf : f = vl (fF c ss')) : Kps w w2 K c ss' M :=
  ⟨h.run.map h.map hg h.le, hf ▸ hm, h.le⟩


/-- Behind a step of the loop over the map. -/
theorem Kps.iter {w w1 w2 : World} {K : Loc} {c : Cfg} {ss : List St} {M R : Nat} (h : Kps w w1 K c ss M) (hg : w1.grownBy w2 (some R)) (hk : ∀ k, K.any k → k < R) (hM : M < R) (hR : w.heap.size ≤ R) : Kps w w2 K c ss M :=
  ⟨⟨⟨h.run.go.cac.same (fun k hk' => hg.block k (h.run.go.cac.lt hk') (fun e => by have := hk k hk'; have := Option.some.inj e; omega)), Run.map.grown_own' h.run.go.grown hg hR, h.run.go.new⟩, h.run.inv⟩, h.map.same (hg.block M h.map.lt (fun e => by have := Option.some.inj e; omega)), h.le⟩
theorem fF_some {c : Cfg} {ss : List St} {k : Int} {v : Value} (h : vl (fF c ss) k = some v) : ∃ l, v = .agg (la l) ∧ cfind c ss k = (l, true) := by
  unfold vl at h
  cases hf : fF c ss k with
  | none => rw [hf] at h; cases h
  | some l =>
    rw [hf] at h
    refine ⟨l, (Option.some.inj h).symm, ?_⟩
    unfold fF at hf
    split at hf
    · rename_i h2
      have := Option.some.inj hf
      rw [← this, ← h2]
    · cases hf
theorem run_len64 {ty : TypeId} {b : Nat} {es : Array MapEntry} {clock : Nat} {w : World} (hb : w.heap[b]? = some (.map es clock)) :
    (Builtin.len_ #[64] ty #[.map (some b)]).run Tryd.prog w = .ok (.int .i64 es.size) w := by
  simp [Builtin.len_, run_underlying Tryd.underlying64, MapKept.run_getObj_map hb, goInt]
/-- The variable that a call was read into. -/
def Bx (w : World) (B : Nat) (q : OpX) : Prop := w.heap[B]? = some (.cells (opCells q) 50 (0, 0))
section
variable {w w' : World} {B : Nat} {q : OpX} (h : Bx w B q)
include h
theorem Bx.c1 : w.cell? ⟨B, 1, none⟩ = some (.int .i64 q.b) := (cell_of_row _ _ _ _ _ _ h).trans rfl
theorem Bx.c2 : w.cell? ⟨B, 2, none⟩ = some (.int .i64 q.wd) := (cell_of_row _ _ _ _ _ _ h).trans rfl
theorem Bx.c4 : w.cell? ⟨B, 4, none⟩ = some (.int .u32 q.x) := (cell_of_row _ _ _ _ _ _ h).trans rfl
theorem Bx.more (hg : w.grownBy w' none) : Bx w' B q := (hg.block B (lt_of h) (by simp)).trans h
theorem Bx.kept {O : Nat → Prop} (hk : Kept O w w') (ho : ¬ O B) : Bx w' B q := (hk.block B (lt_of h) ho).trans h
theorem Bx.but {M : Nat} (hg : w.grownBy w' (some M)) (ho : B ≠ M) : Bx w' B q := (hg.block B (lt_of h) (by simpa using ho)).trans h
end
theorem range_kept {w w' : World} {B : Nat} {l : Ln} {O : Nat → Prop} (h : w.rangeAt B 0 (ln l)) (hB : B < w.heap.size) (hk : Kept O w w') (ho : ¬ O B) : w'.rangeAt B 0 (ln l) := range_same h (hk.block B hB ho)
set_option maxRecDepth 1000000 in
set_option maxHeartbeats 4000000 in
theorem keeps_some (c : Cfg) (os : List OpX) (ad : Option Addr) (len cap : Nat) (w : World) (hT : Tab w) (hlen : len = os.length) (hat : OpsAt w ad os) (h : len ≤ 300) (hm : c.may) :
    Calls Tryd.prog 6 #[.agg c.cells, .slice ad len cap] w fun e w' => e = .returned (.bool true) ∧ w.grownBy w' none := by
  have hd : decide ((300 : Int) < (len : Int)) = false := by simp; omega
  have hg0 : w.grownBy (w.alloc (.cells c.cells 27)) none := grown_alloc (grown_refl _ _) _
  have HN := Lib.hid (new_ok c _ (hT.grown hg0) hm)
  obtain ⟨c0, c1, c2, c3, c4, c5, c6, c7⟩ := cfg_at w c
  obtain ⟨w0, hw0⟩ : ∃ w0, w0 = w.alloc (.cells c.cells 27) := ⟨_, rfl⟩
  rw [← hw0] at hg0
  have HW : Hid (∀ w', w0.grownBy w' none → _) := Lib.hid (fun w' h => works_any w' (hT.grown (grown_trans hg0 h)))
  have HT := Lib.hid (fun w' (h : w0.grownBy w' none) => hT.grown (grown_trans hg0 h))
  have HG0 := Lib.hid hg0
  have HAT := Lib.hid (fun w' (h : w0.grownBy w' none) => hat.grown (grown_trans hg0 h))
  have HL := Lib.hid hlen
  have HW0 : Hid (w.alloc (.cells c.cells 27) = w0) := Lib.hid hw0.symm
  clear hT hm hg0 hat hlen hw0
  unfold Cfg.cells at HN HW0 c0 c1 c2 c3 c4 c5 c6 c7 ⊢
  have hmm := @run_makeMap Tryd.prog
  go_enter Tryd.func6, Tryd.ntmps6
  go_wp2_with (first
    | (go_at_call 8; ((with_reducible refine HN.out.mono ?_); rintro e w2 ⟨K, rfl, hc2, hg2, hf2⟩; (rw [HW0.out] at hg2 hf2); have HR2 : Hid (Kps w0 (w2.alloc (.map #[] 0)) K c (empty c) w2.heap.size) := Lib.hid ⟨⟨⟨hc2.grown (grown_alloc (grown_refl _ _) _), grown_alloc hg2 _, hf2⟩, Inv.empty c⟩, (by rw [fF_empty]; exact MapAt.new w2), hg2.size⟩; clear hc2 hg2 hf2 c0 c1 c2 c3 c4 c5 c6 c7)))
  clear HN HW0 hmm
  generalize w2.heap.size = M at *
  go_loopw [33] (fun i wr => ∃ (j : Nat) (ss : List St), j ≤ len ∧ i = .int .i64 (j : Int) ∧ Kps w0 wr K c ss M) (fun i _ => len - (intOf i).toNat)
  case atStart => exact ⟨0, _, Nat.zero_le _, rfl, HR2.out⟩
  case round =>
    clear HR2
    obtain ⟨j, ss, hj, rfl, hr⟩ := hrel
    have HR := Lib.hid hr
    by_cases hlt : j < len
    · obtain ⟨q, hq⟩ : ∃ q, os[j]? = some q := ⟨_, List.getElem?_eq_getElem (by have := HL.out; omega)⟩
      obtain ⟨g, off, rfl, d0, d1, d2, d3, d4⟩ := (HAT.out _ hr.run.go.grown) j q hq
      have HB : Hid (wr.grownBy (wr.alloc (.cells #[.int .i64 q.kind, .int .i64 q.b, .int .i64 q.wd, .int .u8 q.s, .int .u32 q.x] 50)) none) := Lib.hid (grown_alloc (grown_refl _ _) _)
      have HRB := Lib.hid (hr.more HB.out)
      have HX : Hid (Bx (wr.alloc (.cells #[.int .i64 q.kind, .int .i64 q.b, .int .i64 q.wd, .int .u8 q.s, .int .u32 q.x] 50)) wr.heap.size q) := Lib.hid (heap_alloc_new _ _)
      have HO : Hid (∀ k, wr.heap.size ≤ k → ¬ K.own k) := Lib.hid (fun k hk ho => by have := hr.run.go.cac.lt (.inr ho); omega)
      clear hr hq
      by_cases hk0 : q.kind = 0
      · have ek : (q.kind == 0) = true := by simp [hk0]
        clear hk0
        obtain ⟨lx, hlx⟩ : ∃ lx, lx = (mk q.b q.s).word 3 q.x := ⟨_, rfl⟩
        have hlw : (la (mk q.b q.s)).setIfInBounds 5 (.int .u32 q.x) = la lx := by rw [hlx]; exact la_word (mk q.b q.s) 3 q.x
        have hlb : lx.b = q.b := by rw [hlx]; rfl
        obtain ⟨v5, l5⟩ := la_at (mk q.b q.s) 5 (by omega)
        have HLW := Lib.hid hlw
        have HLB := Lib.hid hlb
        have hnc : ∀ (n : Int) (P : Prop), (n = 0 → (n == 0) = true → P) → (n ≠ 0 → (n == 0) = false → P) → P := fun n P h1 h2 => by
          by_cases h : n = 0
          · exact h1 h (by simp [h])
          · exact h2 h (by simp [h])
        clear hlx hlw hlb
        refine hnc (cput c ss lx).2 _ (fun hc ec => ?_) (fun hc ec => ?_)
        · clear hnc
          have HC := Lib.hid hc
          clear hc
          go_wp2_with (first
            | (go_at_call 12; ((with_reducible refine (line_any q.b q.s _).mono ?_); rintro e w3 ⟨rfl, hg3⟩; have HR3 := Lib.hid (HRB.out.more hg3); have HX3 := Lib.hid (HX.out.more hg3); have HS3 : Hid (wr.heap.size ≤ w3.heap.size) := Lib.hid (by have := hg3.size; simp at this; omega); have z4 := (HX3.out.more (grown_alloc (grown_refl w3 none) (.cells (la (mk q.b q.s)) 36))).c4; clear hg3))
            | ((with_reducible refine store_new' (mk q.b q.s) 10 45 ?_ ?_ ?_); ((rfl)); ((rfl)))
            | ((rw [HLW.out]; with_reducible refine load_ln lx 10 w3.heap.size 0 ?_ ?_ ?_); ((rfl)); (exact range_of (heap_alloc_new _ _)))
            | (go_at_call 11; ((with_reducible refine (put_any K c ss _ (HR3.out.more (grown_alloc (grown_refl _ _) _)).run.go.cac (HT.out _ (HR3.out.more (grown_alloc (grown_refl _ _) _)).run.go.grown) lx).mono ?_); rintro e w4 ⟨rfl, hc4, hk4⟩; have HR4 := Lib.hid ((HR3.out.more (grown_alloc (grown_refl _ _) _)).turn hc4 hk4 (HR3.out.run.inv.cput HR3.out.run.at _)); have y1 := ((HX3.out.more (grown_alloc (grown_refl w3 none) (.cells (la lx) 36))).kept hk4 (HO.out _ (Nat.le_refl _))).c1; have HRG := Lib.hid (range_kept (range_of (l := lx) (heap_alloc_new w3 _)) (by simp) hk4 (HO.out _ HS3.out)); clear hc4 hk4))
            | ((with_reducible refine load_ln lx 10 w3.heap.size 0 ?_ ?_ ?_); ((rfl)); (exact HRG.out))
            | ((with_reducible refine map_store 64 36 Tryd.underlying64 Tryd.underlying3 (.tmp 54) (.tmp 56) (.tmp 57) M (vl (fF c ss)) q.b (.agg (la lx)) ?_ ?_ ?_ HR4.out.map ?_); ((rfl)); ((rfl)); ((rfl)); (intro w5 hm5 hg5; have HR5 := Lib.hid (HR4.out.store hm5 hg5 (by rw [mput_vl, fF_put HR3.out.run.at lx HC.out, HLB.out])); clear hm5 hg5)))
          go_roundw
          case rel => exact ⟨j + 1, _, by omega, by go_num, HR5.out⟩
          case measure => simp [intOf]; omega
        · clear hnc
          have HC := Lib.hid (fF_put_no lx hc)
          clear hc
          go_wp2_with (first
            | (go_at_call 12; ((with_reducible refine (line_any q.b q.s _).mono ?_); rintro e w3 ⟨rfl, hg3⟩; have HR3 := Lib.hid (HRB.out.more hg3); have z4 := ((HX.out.more hg3).more (grown_alloc (grown_refl w3 none) (.cells (la (mk q.b q.s)) 36))).c4; clear hg3))
            | ((with_reducible refine store_new' (mk q.b q.s) 10 45 ?_ ?_ ?_); ((rfl)); ((rfl)))
            | ((rw [HLW.out]; with_reducible refine load_ln lx 10 w3.heap.size 0 ?_ ?_ ?_); ((rfl)); (exact range_of (heap_alloc_new _ _)))
            | (go_at_call 11; ((with_reducible refine (put_any K c ss _ (HR3.out.more (grown_alloc (grown_refl _ _) _)).run.go.cac (HT.out _ (HR3.out.more (grown_alloc (grown_refl _ _) _)).run.go.grown) lx).mono ?_); rintro e w4 ⟨rfl, hc4, hk4⟩; have HR4 := Lib.hid ((HR3.out.more (grown_alloc (grown_refl _ _) _)).like hc4 hk4 (HR3.out.run.inv.cput HR3.out.run.at _) (by rw [HC.out])); clear hc4 hk4)))
          go_roundw
          case rel => exact ⟨j + 1, _, by omega, by go_num, HR4.out⟩
          case measure => simp [intOf]; omega
      · have ek0 : (q.kind == 0) = false := by simp [hk0]
        by_cases hk1 : q.kind = 1
        · have ek : (q.kind == 1) = true := by simp [hk1]
          clear hk0 hk1
          have HLK : Hid (∀ W, MapAt W M (vl (fF c ss)) → (Instr.lookup 64 (.map (some M)) (.int .i64 q.b) true).run Tryd.prog W = .ok (.tuple #[.agg (la ((fF c ss q.b).getD zl)), .bool (fF c ss q.b).isSome]) W) := Lib.hid (fun W h => look64ok h q.b)
          have HDI := Lib.hid (drop_is (c := c) (ss := ss) q.b)
          have HFD := Lib.hid (fF_drop HRB.out.run.inv HRB.out.run.at q.b)
          generalize (fF c ss q.b).getD zl = lv at HLK
          generalize (fF c ss q.b).isSome = dv at HLK HDI
          have r64 := HLK.out _ HRB.out.map
          have hbx : (dv != dv) = false := by cases dv <;> rfl
          go_wp2_with (first
            | ((with_reducible refine store_newAt lv 11 65 (wr.heap.size + 1) ?_ ?_ ?_ ?_); (simp); ((rfl)); ((rfl)))
            | (go_at_call 15; ((with_reducible refine (drop_any K c ss _ (HRB.out.run.more (grown_alloc (grown_refl _ _) _)).go.cac (HT.out _ (HRB.out.run.more (grown_alloc (grown_refl _ _) _)).go.grown) q.b).mono ?_); rintro e w4 ⟨he, hc4, hk4⟩; (rw [HDI.out] at he); subst he; have HR4 := Lib.hid ((HRB.out.more (grown_alloc (grown_refl _ _) _)).turn hc4 hk4 (HRB.out.run.inv.cdrop HRB.out.run.at _)); have y1 := ((HX.out.more (grown_alloc (grown_refl _ none) (.cells (la lv) 36))).kept hk4 (HO.out _ (Nat.le_refl _))).c1; clear hc4 hk4))
            | ((with_reducible refine map_delete 64 36 Tryd.underlying64 Tryd.underlying3 (.tmp 73) (.tmp 75) M (vl (fF c ss)) q.b ?_ ?_ HR4.out.map ?_); ((rfl)); ((rfl)); (intro w5 hm5 hg5; have HR5 := Lib.hid (HR4.out.store hm5 hg5 (by rw [mdel_vl, HFD.out])); clear hm5 hg5)))
          go_roundw
          case rel => exact ⟨j + 1, _, by omega, by go_num, HR5.out⟩
          case measure => simp [intOf]; omega
        · have ek1 : (q.kind == 1) = false := by simp [hk1]
          by_cases hk2 : q.kind = 2
          · have ek : (q.kind == 2) = true := by simp [hk2]
            clear hk0 hk1 hk2
            go_wp2_with (first
              | (go_at_call 13; ((with_reducible refine (uses_any K c ss _ HRB.out.run.go.cac (HT.out _ HRB.out.run.go.grown) q.b).mono ?_); rintro e w4 ⟨rfl, hc4, hk4⟩; have HR4 := Lib.hid (HRB.out.like hc4 hk4 (HRB.out.run.inv.cuse HRB.out.run.at _) (fF_use HRB.out.run.at q.b)); clear hc4 hk4)))
            go_roundw
            case rel => exact ⟨j + 1, _, by omega, by go_num, HR4.out⟩
            case measure => simp [intOf]; omega
          · have ek2 : (q.kind == 2) = false := by simp [hk2]
            by_cases hk4 : q.kind = 4
            · have ek : (q.kind == 4) = true := by simp [hk4]
              clear hk0 hk1 hk2 hk4
              have hnc : ∀ (n : Int) (P : Prop), (n = 0 → (n == 0) = true → P) → (n ≠ 0 → (n == 0) = false → P) → P := fun n P h1 h2 => by
                by_cases h : n = 0
                · exact h1 h (by simp [h])
                · exact h2 h (by simp [h])
              refine hnc (cwrite c ss q.b q.wd q.x).2 _ (fun hc ec => ?_) (fun hc ec => ?_)
              · clear hnc
                obtain ⟨hw, hfw⟩ := fF_write HRB.out.run.at q.b q.wd q.x hc
                obtain ⟨k, hk⟩ : ∃ k : Nat, q.wd = (k : Int) := ⟨q.wd.toNat, by omega⟩
                have hk16 : k < 16 := by omega
                have htn : q.wd.toNat = k := by omega
                rw [htn] at hfw
                have HLK : Hid (∀ W, MapAt W M (vl (fF c ss)) → (Instr.lookup 64 (.map (some M)) (.int .i64 q.b) false).run Tryd.prog W = .ok (.agg (la ((fF c ss q.b).getD zl))) W) := Lib.hid (fun W h => look64 h q.b)
                generalize (fF c ss q.b).getD zl = lv at hfw HLK
                obtain ⟨lz, hlz⟩ : ∃ lz, lz = (lv.word k q.x).state 3 := ⟨_, rfl⟩
                rw [← hlz] at hfw
                have HLW : Hid (((la lv).setIfInBounds (2 + k) (.int .u32 q.x)).setIfInBounds 1 (.int .u8 3) = la lz) := Lib.hid (by rw [hlz, la_word, la_state])
                have HFW := Lib.hid hfw
                have HK := Lib.hid hk
                obtain ⟨v5, l5⟩ := la_at lv (2 + k) (by omega)
                obtain ⟨v1, l1⟩ := la_at (lv.word k q.x) 1 (by omega)
                rw [← la_word] at l1
                have dk0 : decide ((k : Int) < 0) = false := by simp
                have dk1 : decide (16 ≤ (k : Int)) = false := by simp; omega
                clear hlz hfw hc hw hk htn
                go_wp2_with (first
                  | (go_at_call 16; ((with_reducible refine (write_any K c ss _ HRB.out.run.go.cac (HT.out _ HRB.out.run.go.grown) q.b q.wd q.x).mono ?_); rintro e w4 ⟨rfl, hc4, hk4⟩; have HR4 := Lib.hid (HRB.out.turn hc4 hk4 (HRB.out.run.inv.cwrite HRB.out.run.at _ _ _)); have hx4 := HX.out.kept hk4 (HO.out _ (Nat.le_refl _)); have y1 := hx4.c1; have r64 := HLK.out _ HR4.out.map; have z2 := (hx4.more (grown_alloc (grown_refl w4 none) (.cells (la lv) 36))).c2; (rw [HK.out] at z2); have z4 := (hx4.more (grown_alloc (grown_refl w4 none) (.cells (la lv) 36))).c4; have z1 := (hx4.more (grown_alloc (grown_refl w4 none) (.cells (((la lv).setIfInBounds (2 + k) (.int .u32 q.x)).setIfInBounds 1 (.int .u8 3)) 36))).c1; clear hc4 hk4 hx4))
                  | ((with_reducible refine store_new' lv 13 96 ?_ ?_ ?_); ((rfl)); ((rfl)))
                  | ((rw [HLW.out]; with_reducible refine load_ln lz 13 w4.heap.size 0 ?_ ?_ ?_); ((rfl)); (exact range_of (heap_alloc_new _ _)))
                  | ((with_reducible refine map_store 64 36 Tryd.underlying64 Tryd.underlying3 (.tmp 112) (.tmp 114) (.tmp 115) M (vl (fF c ss)) q.b (.agg (la lz)) ?_ ?_ ?_ (HR4.out.more (grown_alloc (grown_refl _ _) _)).map ?_); ((rfl)); ((rfl)); ((rfl)); (intro w5 hm5 hg5; have HR5 := Lib.hid ((HR4.out.more (grown_alloc (grown_refl _ _) _)).store hm5 hg5 (by rw [mput_vl, HFW.out])); clear hm5 hg5)))
                go_roundw
                case rel => exact ⟨j + 1, _, by omega, by go_num, HR5.out⟩
                case measure => simp [intOf]; omega
              · clear hnc
                have HC := Lib.hid (fF_write_no q.b q.wd q.x hc)
                clear hc
                go_wp2_with (first
                  | (go_at_call 16; ((with_reducible refine (write_any K c ss _ HRB.out.run.go.cac (HT.out _ HRB.out.run.go.grown) q.b q.wd q.x).mono ?_); rintro e w4 ⟨rfl, hc4, hk4⟩; have HR4 := Lib.hid (HRB.out.like hc4 hk4 (HRB.out.run.inv.cwrite HRB.out.run.at _ _ _) (by rw [HC.out])); clear hc4 hk4)))
                go_roundw
                case rel => exact ⟨j + 1, _, by omega, by go_num, HR4.out⟩
                case measure => simp [intOf]; omega
            · have ek4 : (q.kind == 4) = false := by simp [hk4]
              clear hk0 hk1 hk2 hk4
              go_wp2_with fail
              go_roundw
              case rel => exact ⟨j + 1, _, by omega, by go_num, HRB.out⟩
              case measure => simp [intOf]; omega
    · obtain rfl : j = len := by omega
      obtain ⟨t, nn, HTT, hagg, hsize, hld0, hsz, hst⟩ := named2
      have HLD := Lib.hid hld0
      clear hld0 hst hsz hlt hj
      have hq36 := q36n
      go_wp2_with (first
        | (at_range; (with_reducible refine map_range 64 36 Tryd.underlying64 (.tmp 117) M (vl (fF c ss)) ?_ hr.map ?_); ((rfl)); (intro w3 n hI3 hg3 hs3; have HR3 := Lib.hid (hr.more hg3); have HI3 := Lib.hid hI3; clear hg3 hs3 hI3)))
      go_frame
      have HKR : Hid ((∀ k, K.any k → k < wr.heap.size) ∧ M < wr.heap.size ∧ w0.heap.size ≤ wr.heap.size) := Lib.hid ⟨fun k hk => hr.run.go.cac.lt hk, hr.map.lt, hr.run.go.grown.size⟩
      clear hr
      generalize wr.heap.size = R at *
      clear HR
      go_loopw [14] (fun _ wr2 => (∃ n, Iter wr2 M R (vl (fF c ss)) n) ∧ Kps w0 wr2 K c ss M) (fun _ wr2 => leftAt wr2 M R)
      case atStart => exact ⟨⟨n, HI3.out⟩, HR3.out⟩
      case round =>
        clear HR3 HI3
        obtain ⟨⟨n2, hI⟩, hr⟩ := hrel
        have HI := Lib.hid hI
        have HR := Lib.hid hr
        clear hI hr
        rw [HTT.out.1]
        go_wp2_with (first
          | (at_next; (with_reducible refine map_next (.tmp 118) M R (vl (fF c ss)) n2 ?_ HI.out ?_ ?_); ((rfl))))
        · go_wp2_with (first
            | (go_at_call 19; ((with_reducible refine (len_any K c ss _ HR.out.run.go.cac).mono ?_); rintro e w4 ⟨rfl, hg4⟩; have HR4 := Lib.hid (HR.out.more hg4); obtain ⟨es, cl, hb, hes⟩ := same_len HR4.out.run.inv HR4.out.run.at HR4.out.map; have hq : (((told ss).length : Int) == ((told ss).length : Int)) = true := (by simp); have hl64 := run_len64 (ty := 3) hb; (rw [hes] at hl64); clear hg4 hes hb))
            | (go_at_call 10; ((refine (HW.out _ HR4.out.run.go.grown).mono ?_); rintro e w5 ⟨rfl, hg5⟩; have HG5 := Lib.hid (grown_trans HR4.out.run.go.grown hg5); clear hg5)))
          go_ret
          exact ⟨rfl, grown_trans HG0.out HG5.out⟩
        · intro w4 n4 k v hI4 hlt4 hfk hg4 hs4 hen
          obtain ⟨l, rfl, hcf⟩ := fF_some hfk
          have HR4 := Lib.hid (HR.out.iter hg4 HKR.out.1 HKR.out.2.1 HKR.out.2.2)
          have HI4 := Lib.hid hI4
          have HCF := Lib.hid hcf
          have HLT := Lib.hid hlt4
          clear hfk hg4 hs4 hI4 hcf hlt4
          go_wp2_with (first
            | ((with_reducible refine store_new' l 15 123 ?_ ?_ ?_); ((rfl)); ((rfl)))
            | (go_at_call 18; ((with_reducible refine (find_any K c ss _ (HR4.out.more (grown_alloc (grown_refl _ _) _)).run.go.cac (HT.out _ (HR4.out.more (grown_alloc (grown_refl _ _) _)).run.go.grown) k).mono ?_); rintro e w5 ⟨he, hg5⟩; (rw [HCF.out] at he); subst he; have HR5 := Lib.hid ((HR4.out.more (grown_alloc (grown_refl _ none) (.cells (la l) 36))).more hg5); have HI5 := Lib.hid ((HI4.out.more (grown_alloc (grown_refl _ none) (.cells (la l) 36))).more hg5); have hl1 := HLD.out w5.heap.size 0 l _ (range_of (heap_alloc_new w5 (.cells (la l) 36))); have hl2 := HLD.out w4.heap.size 0 l (w5.alloc (.cells (la l) 36)) (range_grown (range_grown (range_of (heap_alloc_new w4 (.cells (la l) 36))) hg5 (by simp)) (grown_alloc (grown_refl _ none) _) (by simp)); clear hg5))
            | ((with_reducible refine store_new' l 16 128 ?_ ?_ ?_); ((rfl)); ((rfl))))
          go_roundw
          case rel => exact ⟨⟨n4, HI5.out.more (grown_alloc (grown_refl _ _) _)⟩, HR5.out.more (grown_alloc (grown_refl _ _) _)⟩
          case measure =>
            rw [(HI5.out.more (grown_alloc (grown_refl _ _) _)).left, HI.out.left]
            exact HLT.out
      
theorem keeps_true (c : Cfg) (os : List OpX) (ad : Option Addr) (len cap : Nat) (w : World) (hT : Tab w) (hlen : len = os.length) (hat : OpsAt w ad os) :
    Calls Tryd.prog 6 #[.agg c.cells, .slice ad len cap] w fun e w' => e = .returned (.bool true) ∧ w.grownBy w' none := by
  by_cases h : 300 < len
  · exact keeps_long c os ad len cap w hT h
  · by_cases hm : c.may
    · exact keeps_some c os ad len cap w hT hlen hat (by omega) hm
    · exact keeps_no c os ad len cap w hT (by omega) hm
end Go.Proofs.YtjbapfjeildfoaaDoor.kk
