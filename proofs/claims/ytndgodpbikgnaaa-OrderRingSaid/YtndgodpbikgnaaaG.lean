/-
  The law OrderRing walked. No condition but that stamps are at least 0.
-/
import Derived.Test.YtndgodpbikgnaaaB
import Derived.Test.YtndgodpbikgnaaaS11
import Derived.Laws.CopyOwn
namespace Go.Proofs.Ytndgodpbikgnaaa.oo
open Go Go.ChangeShapes Go.WideShapes Go.ChangeAt Go.RowKit Go.Proofs.Ytndgodpbikgnaaa.srt
set_option linter.unusedVariables false

theorem grown_new {w1 w2 w3 : World} (h : w1.grownBy w2 none) {g : Nat} (hg : w1.heap.size ≤ g) (k : w2.grownBy w3 (some g)) : w1.grownBy w3 none :=
  ⟨k.os.trans h.os, k.tape.trans h.tape, k.output.trans h.output, Nat.le_trans h.size k.size, fun i hi hn => (k.block i (Nat.lt_of_lt_of_le hi h.size) (by intro e; injection e with e; omega)).trans (h.block i hi hn)⟩

/-- Where the stamps lie. -/
structure Row (w : World) (b o n : Nat) (d : Array Int) : Prop where
  size : d.size = n
  cell : ∀ k, k < n → w.cell? ⟨b, o + k, none⟩ = some (E d[k]!)
  lt : b < w.heap.size
theorem Row.grown {w w' : World} {b o n : Nat} {d : Array Int} (h : Row w b o n d) (hg : w.grownBy w' none) : Row w' b o n d :=
  ⟨h.size, fun k hk => hg.cell (h.cell k hk) (by simp), Nat.lt_of_lt_of_le h.lt hg.size⟩

/-- make of n zero things of one cell, written out. -/
theorem make_at {P : Program} {w : World} {ops : Array Oper} {rest : List Oper} {a : Act} {Q : Exit → Act → World → Prop} {dst : Option Tmp} {ty : TypeId} {pos : String} {after : Array Edge}
    (t e : TypeId) (i : TypeInfo) (z : Value) (l c : Tmp) (n : Nat) (ht : P.underlying t = some (.slice e)) (hi : P.info? e = some i) (hz : i.zero = some z) (h1 : i.size = 1) (hc : z.cells = #[z])
    (el : a.eval (.tmp l) = .int .i64 (n : Int)) (ec : a.eval (.tmp c) = .int .i64 (n : Int)) (hb : (i.bytes : Int) * (n : Int) ≤ 281474976710656) (h63 : (n : Int) ≤ 9223372036854775807)
    (cs : List Value) (hcs : cs = List.replicate n z) (h : wpList P ops Q rest (a.put dst (.slice (some ⟨w.heap.size, 0, none⟩) n n)) (w.alloc (.cells cs.toArray e))) : wpList P ops Q (⟨dst, .makeSlice t (.tmp l) (.tmp c), ty, pos, after, none⟩ :: rest) a w := by
  subst hcs
  refine wpList_plain rfl fun K hK' => ?_
  have hrun := run_make (P := P) w t e i z ht hi hz .i64 .i64 n n (by omega) (Int.le_refl _) hb h63
  have hm : madeCells z.cells ((n : Int).toNat * i.size) = (List.replicate n z).toArray := by
    rw [h1, hc, Int.toNat_natCast, Nat.mul_one]
    apply Array.ext
    · simp [madeCells]
    · intro k h1 h2; simp [madeCells, Nat.mod_one]
  rw [hm, Int.toNat_natCast] at hrun
  unfold Oper.wp
  simp [execOp, el, ec, hrun, Result.andThen]
  exact hK' _ _ h
/-- What the two loops read: the oldest stamp, the flags. -/
structure Ring (w : World) (g ub n : Nat) (m0 : Int) (V : Nat → Bool) (wr : World) : Prop where
  grown : w.grownBy wr none
  c0 : wr.cell? ⟨g, 0, none⟩ = some (.int .u64 m0)
  up : ∀ k, k < n → wr.cell? ⟨ub, k, none⟩ = some (.bool (V k))
  fz : ∀ k, k < n → wr.frozen? ⟨ub, k, none⟩ = false
theorem Ring.drewN {w wr : World} {g ub n : Nat} {m0 : Int} {V : Nat → Bool} (h : Ring w g ub n m0 V wr) (q : Nat) : Ring w g ub n m0 V (wr.drewN q) := ⟨grown_trans h.grown (grown_drewN _ _ _), h.c0, h.up, h.fz⟩
theorem Ring.store {w wr : World} {g ub n : Nat} {m0 : Int} {V : Nat → Bool} (h : Ring w g ub n m0 V wr) (hu : w.heap.size ≤ ub) (hg : g ≠ ub) (k : Nat) (hk : k < n) (b : Bool) : Ring w g ub n m0 (fun j => if j = k then b else V j) (wr.setCell ⟨ub, k, none⟩ (.bool b)) := by
  refine ⟨grown_new h.grown hu (grown_setCell _ _ _ _), ?_, fun j hj => ?_, fun j hj => ?_⟩
  · rw [World.cell?_setCell_other _ _ _ _ (by intro e; injection e with e _ _; exact hg e.symm)]; exact h.c0
  · by_cases hjk : j = k
    · subst hjk; simp only [if_pos]; exact World.cell?_setCell_same _ _ _ (h.up j hj)
    · simp only [if_neg hjk]
      rw [World.cell?_setCell_other _ _ _ _ (by intro e; injection e with _ e _; exact hjk e.symm)]; exact h.up j hj
  · rw [World.frozen?_setCell]; exact h.fz j hj

/-- The next one in the ring. -/
theorem next_lt {i m : Nat} (h : 2 ≤ m) : (i + 1) % m < m := Nat.mod_lt _ (by omega)
theorem greatest (X : Nat → Int) : ∀ m, 0 < m → ∃ j, j < m ∧ ∀ i, i < m → X i ≤ X j := by
  intro m
  induction m with
  | zero => intro h; omega
  | succ m ih =>
    intro _
    by_cases h0 : m = 0
    · exact ⟨0, by omega, fun i hi => by have e : i = 0 := (by omega); subst e; first | exact Int.le_refl _ | (rw [h0]; exact Int.le_refl _)⟩
    · obtain ⟨j, hj, hX⟩ := ih (by omega)
      by_cases h : X j ≤ X m
      · exact ⟨m, by omega, fun i hi => by
          by_cases him : i = m
          · subst him; exact Int.le_refl _
          · exact Int.le_trans (hX i (by omega)) h⟩
      · exact ⟨j, by omega, fun i hi => by
          by_cases him : i = m
          · subst him; omega
          · exact hX i (by omega)⟩
theorem some_gives (m : Nat) (X : Nat → Int) (V : Nat → Bool) (hm : 2 ≤ m) (hpos : ∀ j, j < m → 0 < X j) (hne : ∀ i j, i < m → j < m → X i = X j → i = j)
    (hV : ∀ j, j < m → older (X j) (X ((j + 1) % m)) = true → V ((j + 1) % m) = true) : ∃ j, j < m ∧ gives (X j) (V j) (X ((j + 1) % m)) = true := by
  obtain ⟨j, hj, hX⟩ := greatest X m (by omega)
  have hlt : ∀ i, i < m → i ≠ j → X i < X j := fun i hi hij => by
    have h1 := hX i hi
    have h2 : X i ≠ X j := fun e => hij (hne i j hi hj e)
    omega
  have hold : ∀ i, i < m → i ≠ j → older (X i) (X j) = true := fun i hi hij => by
    have h1 := hlt i hi hij
    have h2 := hpos i hi
    have h3 := hpos j hj
    unfold older
    simp
    omega
  have hVj : V j = true := by
    by_cases h0 : j = 0
    · subst h0
      have e : (m - 1 + 1) % m = 0 := by rw [show m - 1 + 1 = m by omega]; exact Nat.mod_self m
      have := hV (m - 1) (by omega)
      rw [e] at this
      exact this (hold (m - 1) (by omega) (by omega))
    · have e : (j - 1 + 1) % m = j := by rw [show j - 1 + 1 = j by omega]; exact Nat.mod_eq_of_lt hj
      have := hV (j - 1) (by omega)
      rw [e] at this
      exact this (hold (j - 1) (by omega) (by omega))
  have hn : (j + 1) % m ≠ j := by
    by_cases h : j + 1 < m
    · rw [Nat.mod_eq_of_lt h]; omega
    · rw [show j + 1 = m by omega, Nat.mod_self]; omega
  refine ⟨j, hj, ?_⟩
  have h3 := hpos j hj
  unfold gives
  simp [hVj, hold _ (next_lt hm) hn]
  omega
theorem nextZ (i m : Nat) : ((i : Int) + 1).tmod (m : Int) = (((i + 1) % m : Nat) : Int) := rfl
theorem less_of_gives {own s : Int} {f : Bool} (h : gives own f s = true) : s < own := by
  unfold gives older at h
  simp at h
  omega
theorem flags_bools (fs : List Bool) (m : Nat) : ∃ us : List Bool, us.length = m ∧ splice (List.replicate m (Value.bool false)) 0 ((fs.take m).map Value.bool) = us.map Value.bool := by
  refine ⟨fs.take m ++ (List.replicate m false).drop (fs.take m).length, by simp; omega, ?_⟩
  unfold splice
  simp
theorem info4' : (Try.prog.info? 4).map (fun i => (i.zero, i.size, i.bytes)) = some (some (.bool false), 1, 1) := by kernel_rfl
theorem info4 : ∃ i, Try.prog.info? 4 = some i ∧ i.zero = some (.bool false) ∧ i.size = 1 ∧ i.bytes = 1 := by
  have h := info4'
  cases hi : Try.prog.info? 4 with
  | none => rw [hi] at h; cases h
  | some i => rw [hi] at h; simp at h; exact ⟨i, rfl, h⟩

set_option maxRecDepth 100000 in
set_option maxHeartbeats 3200000 in
theorem ring_true (n b0 o0 c0 c1 : Nat) (d : Array Int) (fs : List Bool) (ad1 : Option Addr) (w : World) (h2 : 2 ≤ n) (h100 : n ≤ 100) (hR : Row w b0 o0 n d) (hx : ∀ x ∈ d.toList, 0 ≤ x ∧ x < 18446744073709551616) (h1 : At w ad1 (fs.map Value.bool)) :
    Calls Try.prog 6 #[.slice (some ⟨b0, o0, none⟩) n c0, .slice ad1 fs.length c1] w fun e w' => e = .returned (.bool true) ∧ w.grownBy w' none := by
  have HW := Lib.hid works_true
  have HR := Lib.hid hR
  have HX := Lib.hid hx
  have H1 := Lib.hid h1
  have h2z : decide (n < 2) = false := by simp; omega
  have h100z : decide (100 < n) = false := by simp; omega
  have HC1 := Lib.hid (clone b0 o0 n c0 d w (by omega) (by omega) hR.size hR.cell)
  clear hR hx h1
  go_enter Try.func6, Try.ntmps6
  go_upto_region 5 with (go_at_call 15; refine HC1.out.mono ?_; rintro e w1 ⟨g, cap, rfl, hg1, hcap, hgr1, hS1⟩)
  have HC2 := Lib.hid (srt.sort g 0 n cap d w1 hS1 (by omega))
  have HG1 := Lib.hid hgr1
  clear HC1 hgr1 hS1
  go_upto_region 6 with (go_at_call 16; refine HC2.out.mono ?_; rintro e w2 ⟨rfl, d', hS2, hP, hO⟩)
  have HLE := Lib.hid (first_least HR.out.size hP hO)
  have HNO : Hid (_ → _) := Lib.hid (unlike HR.out.size hP hO)
  have HG2 := Lib.hid (grown_new HG1.out hg1 hS2.grown)
  have HS2 := Lib.hid hS2
  have hc0 : w2.cell? ⟨g, 0, none⟩ = some (.int .u64 d'[0]!) := by have := (hS2.holds 0 (by rw [hS2.size]; omega)).1; simpa using this
  have HM : Hid (0 ≤ d'[0]!) := by
    obtain ⟨x, hx⟩ : ∃ x, x ∈ d'.toList ∧ x = d'[0]! := ⟨_, by rw [getElem!_pos d' 0 (by rw [hS2.size]; omega)]; simp, rfl⟩
    exact Lib.hid (hx.2 ▸ (HX.out x ((perm_list HR.out.size hP).mem_iff.1 hx.1)).1)
  have HCL := Lib.hid (clone g 0 n cap d' w2 (by omega) (by omega) hS2.size (fun k hk => (hS2.holds k (by rw [hS2.size]; exact hk)).1))
  have hlg : g < w2.heap.size := Nat.lt_of_lt_of_le hS2.lt hS2.grown.size
  clear HC2 hP hO hS2 HS2 HG1
  obtain ⟨m0, hm0⟩ : ∃ m, m = d'[0]! := ⟨_, rfl⟩
  rw [← hm0] at HLE hc0 HM
  clear hm0
  by_cases hz : m0 = 0
  · subst hz
    go_wp2_with (go_at_call 9; refine (HW.out _).mono ?_; rintro e w' ⟨rfl, rfl⟩)
    go_ret
    exact ⟨rfl, HG2.out⟩
  · have hzz : (m0 == 0) = false := by simp [hz]
    obtain ⟨m, hm⟩ : ∃ m, m = (Lib.compactUpTo d' n).length := ⟨_, rfl⟩
    have HCP : Hid (∀ (g2 cap2 : Nat) (w3 : World), S g2 0 n w3 d' w3 → n ≤ cap2 → Calls Try.prog 17 #[.slice (some ⟨g2, 0, none⟩) n cap2] w3 fun e w' => e = .returned (.slice (some ⟨g2, 0, none⟩) m cap2) ∧ w3.grownBy w' (some g2)) :=
      Lib.hid fun g2 cap2 w3 hs hc => by have := compact g2 n cap2 d' w3 hs hc (by omega); rwa [← hm] at this
    rw [← hm] at HNO
    clear hm
    go_upto_if 39 with (first
      | (go_at_call 15; refine HCL.out.mono ?_; rintro e w3 ⟨g2, cap2, rfl, hg2, hcap2, hgr3, hS3⟩)
      | (go_at_call 17; refine (HCP.out _ _ _ hS3 hcap2).mono ?_; rintro e w4 ⟨rfl, hgr4⟩))
    have HG4 := Lib.hid (grown_new hgr3 hg2 hgr4)
    clear HCL HCP hgr3 hg2 hgr4 hS3
    by_cases hmn : m = n
    · have HNO' := Lib.hid (HNO.out hmn)
      subst hmn
      have HGW := Lib.hid (grown_trans HG2.out HG4.out)
      have hc4 := HG4.out.cell hc0 (by simp)
      have hlg4 : g < w4.heap.size := Nat.lt_of_lt_of_le hlg HG4.out.size
      clear HNO HG2 HG4 hc0 hlg hcap2 hcap
      have hmm : ((m : Int) != (m : Int)) = false := by simp
      obtain ⟨i0, hi, hz0, hz1, hz2⟩ := info4
      obtain ⟨Z, hZ⟩ : ∃ Z : List Value, Z = List.replicate m (Value.bool false) := ⟨_, rfl⟩
      obtain ⟨cs, hcs⟩ : ∃ cs : List Value, cs = (fs.take m).map Value.bool := ⟨_, rfl⟩
      have HZ := Lib.hid hZ
      have HCS := Lib.hid hcs
      clear hZ hcs
      go_upto_region 9 with ((with_reducible refine make_at 30 4 i0 (.bool false) 41 41 m Try.underlying30 hi hz0 hz1 ?_ ?_ ?_ ?_ ?_ Z ?_ ?_); (rfl); (rfl); (rfl); (rw [hz2]; omega); (omega); (exact HZ.out))
      have hg45 : w4.grownBy (w4.alloc (.cells Z.toArray 4)) none := ⟨rfl, rfl, rfl, by simp, fun k hk _ => Below.heap_alloc _ _ _ hk⟩
      have HG5 := Lib.hid (grown_trans HGW.out hg45)
      have HB5 := Lib.hid ((Below.refl w4.heap.size w4).alloc (Nat.le_refl _) (.cells Z.toArray 4))
      have hh5 : (w4.alloc (.cells Z.toArray 4)).heap[w4.heap.size]? = some (.cells Z.toArray 4 (0, 0)) := by show (w4.heap.push _)[w4.heap.size]? = _; exact Array.getElem?_push_size
      have hzl : Z.length = m := by rw [HZ.out]; simp
      have hcl : cs.length = Nat.min fs.length m := by rw [HCS.out]; simp [Nat.min_comm]
      have hone : ∀ v ∈ cs, v.oneCell' = true := by rw [HCS.out]; intro v hv; obtain ⟨x, _, rfl⟩ := List.mem_map.1 hv; rfl
      have hfit : 0 + cs.length ≤ Z.length := by rw [hzl, hcl]; exact Nat.le_trans (Nat.le_of_eq (Nat.zero_add _)) (Nat.min_le_right _ _)
      have HPOS : Hid (0 < cs.length → (some (⟨w4.heap.size, 0, none⟩ : Addr) = some ⟨w4.heap.size, 0, none⟩) ∧ ∃ ad, ad1 = some ad ∧ ∀ j v, cs[j]? = some v → (w4.alloc (.cells Z.toArray 4)).cell? (ad.add j) = some v) := Lib.hid fun h => by
        refine ⟨rfl, ?_⟩
        have h0 : 0 < fs.length := by rw [hcl] at h; exact Nat.lt_of_lt_of_le h (Nat.min_le_left _ _)
        obtain ⟨b1, o1, e1, _⟩ := H1.out 0 (.bool fs[0]) (by simp [h0])
        refine ⟨_, e1, fun j v hj => ?_⟩
        rw [HCS.out, List.getElem?_map, Option.map_eq_some_iff] at hj
        obtain ⟨x, hx, rfl⟩ := hj
        rw [List.getElem?_take] at hx
        split at hx
        · obtain ⟨b2, o2, e2, hc⟩ := H1.out j (.bool x) (by rw [List.getElem?_map, hx]; rfl)
          rw [e1] at e2
          cases e2
          rw [add_lit']
          exact HG5.out.cell hc (by simp)
        · cases hx
      have hc5 := hg45.cell hc4 (by simp)
      clear hg45
      generalize w4.alloc (.cells Z.toArray 4) = w5 at HG5 HB5 hh5 HPOS hc5 ⊢
      go_upto_region 10 with ((with_reducible refine wpList_copy_splice rfl _ _ _ _ rfl 4 Try.underlying30 (by kernel_rfl) _ _ _ _ _ _ rfl rfl w4.heap.size 0 Z 4 hh5 cs hcl HPOS.out hfit hone w4.heap.size w4 HB5.out (Nat.le_refl _) ?_); intro w6 hh6 hb6)
      have hg46 := grown_of_below hb6
      obtain ⟨us, hul, hus⟩ := flags_bools fs m
      rw [← HZ.out, ← HCS.out] at hus
      have hub : w.heap.size ≤ w4.heap.size := HGW.out.size
      have hgub : g ≠ w4.heap.size := by omega
      have HRG : Hid (Ring w g w4.heap.size m m0 (fun k => us.getD k false) w6) := Lib.hid ⟨grown_trans HGW.out hg46, hg46.cell hc4 (by simp), fun k hk => by
          have e := hh6.out
          rw [hus] at e
          simp only [World.cell?, e]
          simp [hul, hk], fun k hk => by simp only [World.frozen?, hh6.out]; simp⟩
      have hcsl : (cs.length : Int) = (cs.length : Int) := rfl
      clear hh6 hb6 hg46 hus hul HZ HCS HG5 HB5 hh5 HPOS hc5 hone hfit hzl hc4 hlg4 HGW hi hz0 hz1 hz2 hcl hcsl H1
      generalize (fun k => us.getD k false) = V0 at HRG
      generalize w4.heap.size = ub at HRG hub hgub ⊢
      obtain ⟨X, hX⟩ : ∃ X : Nat → Int, ∀ k, X k = d[k]! := ⟨_, fun _ => rfl⟩
      have HMEM : Hid (∀ k, k < m → X k ∈ d.toList) := Lib.hid fun k hk => by
        rw [hX, getElem!_pos d k (by rw [HR.out.size]; exact hk)]; simp
      have HCX : Hid (∀ wr, w.grownBy wr none → ∀ k, k < m → wr.cell? ⟨b0, o0 + k, none⟩ = some (.int .u64 (X k))) := Lib.hid fun wr hg k hk => by rw [hX]; exact hg.cell (HR.out.cell k hk) (by simp)
      have HPOS : Hid (∀ k, k < m → 0 < X k) := Lib.hid fun k hk => by have h1 := HLE.out _ (HMEM.out k hk); have h2 := HM.out; omega
      have HLM : Hid (∀ k, k < m → m0 ≤ X k) := Lib.hid fun k hk => HLE.out _ (HMEM.out k hk)
      have HNE : Hid (∀ i j, i < m → j < m → X i = X j → i = j) := Lib.hid fun i j hi hj e => by
        rw [hX, hX, getElem!_pos d i (by rw [HR.out.size]; exact hi), getElem!_pos d j (by rw [HR.out.size]; exact hj)] at e
        have hn := HNO'.out
        rw [List.nodup_iff_pairwise_ne, List.pairwise_iff_getElem] at hn
        have hs := HR.out.size
        rcases Nat.lt_trichotomy i j with h | h | h
        · exact absurd (by rw [Array.getElem_toList, Array.getElem_toList]; exact e) (hn i j (hs.symm ▸ hi : i < d.size) (hs.symm ▸ hj : j < d.size) h)
        · exact h
        · exact absurd (by rw [Array.getElem_toList, Array.getElem_toList]; exact e.symm) (hn j i (hs.symm ▸ hj : j < d.size) (hs.symm ▸ hi : i < d.size) h)
      have HNX : Hid (∀ i, i < m → (i + 1) % m < m) := Lib.hid fun i _ => next_lt h2
      clear HX HLE HNO' HR hX HMEM HM Z
      go_wp2
      go_loopw [47] (fun vi wr => ∃ (i : Nat) (V : Nat → Bool), vi = .int .i64 i ∧ i ≤ m ∧ Ring w g ub m m0 V wr ∧ ∀ j, j < i → older (X j) (X ((j + 1) % m)) = true → V ((j + 1) % m) = true) (fun vi _ => (m - intOf vi).toNat)
      case atStart => exact ⟨0, V0, rfl, Nat.zero_le _, HRG.out, fun j hj => by omega⟩
      case round =>
        obtain ⟨i, V, rfl, hi, hRG, hV⟩ := hrel
        have HRG := Lib.hid hRG
        have HV := Lib.hid hV
        clear hRG hV
        by_cases hlt : i < m
        · obtain ⟨K, hK⟩ : ∃ K, K = (i + 1) % m := ⟨_, rfl⟩
          have hKm : K < m := by rw [hK]; exact HNX.out i hlt
          have hKZ : ((i : Int) + 1).tmod (m : Int) = (K : Int) := by rw [hK]; exact nextZ i m
          have HK := Lib.hid hK
          clear hK
          obtain ⟨B, hB⟩ : ∃ B, V K = B := ⟨_, rfl⟩
          obtain ⟨N, hN⟩ : ∃ N, flag' (X K) B true (X i) = N := ⟨_, rfl⟩
          have hcK := HCX.out wr HRG.out.grown K hKm
          have hci := HCX.out wr HRG.out.grown i hlt
          have hcU := HRG.out.up K hKm
          have hfU := HRG.out.fz K hKm
          rw [hB] at hcU
          have hkp := HPOS.out K hKm
          have HA : Hid (∀ w, Calls Try.prog 8 #[.int .u64 (X K), .bool B, .bool true, .int .u64 (X i)] w fun e w' => e = .returned (.tuple #[.bool true, .bool N]) ∧ w' = w) := Lib.hid fun w =>
            (asked_any (X K) B true (X i) w).mono fun e w' h => ⟨by rw [h.1, hN, show ref (X K) true = true by unfold ref; simp; omega], h.2.symm⟩
          have HN : Hid (N = true ↔ (B = true ∨ older (X i) (X K) = true)) := Lib.hid (by
            have hk0 : X K ≠ 0 := by omega
            rw [← hN]; unfold flag' ref; simp [hk0])
          have HB := Lib.hid hB
          clear hN hB hkp
          go_upto_region 14 with fail
          go_big_quiet (first | (go_at_call 8; refine Calls.quiet_of_same (HA.out _)))
          have HR2 := Lib.hid (HRG.out.drewN nq)
          have hcU2 : (wr.drewN nq).cell? ⟨ub, K, none⟩ = some (.bool B) := hcU
          have hfU2 : (wr.drewN nq).frozen? ⟨ub, K, none⟩ = false := hfU
          clear hcU hfU hcK hci HRG
          generalize wr.drewN nq = wr2 at HR2 hcU2 hfU2 ⊢
          have HV2 : Hid (∀ j, j < i + 1 → older (X j) (X ((j + 1) % m)) = true → (fun k => if k = K then N else V k) ((j + 1) % m) = true) := Lib.hid fun j hj ho => by
            by_cases hji : j = i
            · subst hji
              rw [← HK.out]
              simp only [if_pos]
              rw [HK.out] at HN
              exact HN.out.2 (.inr ho)
            · have h := HV.out j (by omega) ho
              by_cases hjK : (j + 1) % m = K
              · rw [hjK] at h
                simp only [hjK, if_pos]
                exact HN.out.2 (.inl (by rw [← HB.out]; exact h))
              · simp only [if_neg hjK]; exact h
          have HR3 := Lib.hid (HR2.out.store hub hgub K hKm N)
          cases B
          · go_wp2
            go_roundw
            case rel => exact ⟨i + 1, _, by go_num, by omega, HR3.out, HV2.out⟩
            case measure => simp [intOf]; omega
          · obtain rfl : N = true := HN.out.2 (.inl rfl)
            go_wp2
            go_roundw
            case rel => exact ⟨i + 1, _, by go_num, by omega, HR3.out, HV2.out⟩
            case measure => simp [intOf]; omega
        · obtain rfl : i = m := by omega
          obtain ⟨jg, hjg, hgv⟩ := some_gives i X V h2 HPOS.out HNE.out HV.out
          have HGV := Lib.hid hgv
          have hltz : decide (i < i) = false := by simp
          clear hgv HV
          go_wp2
          go_loopw [12, 88] (fun vs vi wr => ∃ (l : Nat) (s : Bool), vs = .bool s ∧ vi = .int .i64 l ∧ l ≤ i ∧ Ring w g ub i m0 V wr ∧ ∀ j, j < l → gives (X j) (V j) (X ((j + 1) % i)) = true → s = true) (fun _ vi _ => (i - intOf vi).toNat)
          case atStart => exact ⟨0, false, rfl, rfl, Nat.zero_le _, HRG.out, fun j hj => by omega⟩
          case round =>
            obtain ⟨l, s, rfl, rfl, hl, hRG, hs⟩ := hrel
            clear HRG
            have HRG := Lib.hid hRG
            have HS := Lib.hid hs
            clear hRG hs
            by_cases hll : l < i
            · obtain ⟨K, hK⟩ : ∃ K, K = (l + 1) % i := ⟨_, rfl⟩
              have hKm : K < i := by rw [hK]; exact HNX.out l hll
              have hKZ : ((l : Int) + 1).tmod (i : Int) = (K : Int) := by rw [hK]; exact nextZ l i
              obtain ⟨B, hB⟩ : ∃ B, gives (X l) (V l) (X K) = B := ⟨_, rfl⟩
              have hcK := HCX.out wr HRG.out.grown K hKm
              have hcl := HCX.out wr HRG.out.grown l hll
              have hcU := HRG.out.up l hll
              have hc0 := HRG.out.c0
              have HA : Hid (∀ w, Calls Try.prog 11 #[.int .u64 (X l), .bool (V l), .int .u64 (X K)] w fun e w' => e = .returned (.bool B) ∧ w' = w) := Lib.hid fun w =>
                (gives_any (X l) (V l) (X K) w).mono fun e w' h => ⟨by rw [h.1, hB], h.2.symm⟩
              have HS2 : Hid (∀ j, j < l + 1 → gives (X j) (V j) (X ((j + 1) % i)) = true → (s || B) = true) := Lib.hid fun j hj ho => by
                by_cases hjl : j = l
                · subst hjl; rw [← hK, hB] at ho; simp [ho]
                · simp [HS.out j (by omega) ho]
              have hne : B = true → (X l == m0) = false := fun hb => by
                have h1 := less_of_gives (hB.trans hb)
                have h2 := HLM.out K hKm
                simp; omega
              have HNEQ := Lib.hid hne
              clear hK hB hne HS
              go_upto_region 23 with fail
              go_big_quiet (first | (go_at_call 11; refine Calls.quiet_of_same (HA.out _)))
              have HR2 := Lib.hid (HRG.out.drewN nq)
              have hcl2 : (wr.drewN nq).cell? ⟨b0, o0 + l, none⟩ = some (.int .u64 (X l)) := hcl
              have hc02 : (wr.drewN nq).cell? ⟨g, 0, none⟩ = some (.int .u64 m0) := hc0
              clear hcl hc0 hcU hcK HRG
              generalize wr.drewN nq = wr2 at HR2 hcl2 hc02 ⊢
              cases B
              · clear HNEQ
                cases s
                · go_upto_region 24 with fail
                  go_big_quiet (fail)
                  go_wp2
                  go_roundw
                  case rel => exact ⟨l + 1, false, by first | rfl | simp, by go_num, by omega, HR2.out.drewN nq, fun j hj ho => by first | rfl | simpa using HS2.out j hj ho⟩
                  case measure => simp [intOf]; omega
                · go_upto_region 24 with fail
                  go_big_quiet (fail)
                  go_wp2
                  go_roundw
                  case rel => exact ⟨l + 1, true, by first | rfl | simp, by go_num, by omega, HR2.out.drewN nq, fun j hj ho => by first | rfl | simpa using HS2.out j hj ho⟩
                  case measure => simp [intOf]; omega
              · have hn0 := HNEQ.out rfl
                clear HNEQ
                cases s
                · go_upto_region 24 with fail
                  go_big_quiet (fail)
                  go_wp2
                  go_roundw
                  case rel => exact ⟨l + 1, true, by first | rfl | simp, by go_num, by omega, HR2.out.drewN nq, fun j hj ho => by first | rfl | simpa using HS2.out j hj ho⟩
                  case measure => simp [intOf]; omega
                · go_upto_region 24 with fail
                  go_big_quiet (fail)
                  go_wp2
                  go_roundw
                  case rel => exact ⟨l + 1, true, by first | rfl | simp, by go_num, by omega, HR2.out.drewN nq, fun j hj ho => by first | rfl | simpa using HS2.out j hj ho⟩
                  case measure => simp [intOf]; omega
            · obtain rfl : l = i := by omega
              obtain rfl : s = true := HS.out jg hjg HGV.out
              have hltz2 : decide (l < l) = false := by simp
              go_wp2_with (go_at_call 9; refine (HW.out _).mono ?_; rintro e w' ⟨rfl, rfl⟩)
              go_ret
              exact ⟨rfl, HRG.out.grown⟩
    · have hmz : ((m : Int) != (n : Int)) = true := by simp; omega
      go_wp2_with (go_at_call 9; refine (HW.out _).mono ?_; rintro e w' ⟨rfl, rfl⟩)
      go_ret
      exact ⟨rfl, grown_trans HG2.out HG4.out⟩

theorem ring_law (xs : List Int) (fs : List Bool) (ad0 ad1 : Option Addr) (n0 n1 c0 c1 : Nat) (w : World) (hl0 : n0 = xs.length) (hl1 : n1 = fs.length) (hx : ∀ x ∈ xs, 0 ≤ x ∧ x < 18446744073709551616) (h0 : At w ad0 (xs.map U)) (h1 : At w ad1 (fs.map Value.bool)) :
    Calls Try.prog 6 #[.slice ad0 n0 c0, .slice ad1 n1 c1] w fun e w' => e = .returned (.bool true) ∧ w.grownBy w' none := by
  have HW := Lib.hid works_true
  subst hl1
  by_cases h2 : n0 < 2
  · have h2z : decide (n0 < 2) = true := decide_eq_true h2
    clear h0 h1 hx hl0
    go_enter Try.func6, Try.ntmps6
    go_wp2_with (go_at_call 9; refine (HW.out _).mono ?_; rintro e w' ⟨rfl, rfl⟩)
    all_goals (go_ret; exact ⟨rfl, oo.grown_refl _ _⟩)
  · by_cases h100 : 100 < n0
    · clear h0 h1 hx hl0
      go_enter Try.func6, Try.ntmps6
      go_wp2_with (go_at_call 9; refine (HW.out _).mono ?_; rintro e w' ⟨rfl, rfl⟩)
      all_goals (go_ret; exact ⟨rfl, oo.grown_refl _ _⟩)
    · obtain ⟨b, o, rfl, hc0⟩ := h0 0 (U xs[0]) (by first | (simp; done) | (simp; omega))
      refine ring_true n0 b o c0 c1 xs.toArray fs ad1 w (by omega) (by omega) ⟨by simp [hl0], fun k hk => ?_, ?_⟩ (by simpa using hx) h1
      · obtain ⟨b2, o2, e, hc⟩ := h0 k (U xs[k]) (by first | (simp; done) | (simp; omega))
        cases e
        rw [hc, getElem!_pos xs.toArray k (by simp; omega)]
        simp
      · simp only [World.cell?] at hc0
        by_cases hb : b < w.heap.size
        · exact hb
        · rw [Array.getElem?_eq_none (by omega)] at hc0
          simp at hc0
end Go.Proofs.Ytndgodpbikgnaaa.oo
