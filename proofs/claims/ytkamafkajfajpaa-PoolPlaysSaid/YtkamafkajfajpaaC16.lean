/-
  The law PoolPlays returns true: the walk. No condition beyond that the script has its calls.
-/
import Derived.Test.YtkamafkajfajpaaC15
namespace Go.Proofs.Ytkamafkajfajpaa.pp
open Go Go.RowKit Go.Shelf
set_option linter.unusedVariables false
attribute [local go_sem] Oper.semAt_some
attribute [local simp] wide_fn

/-- All ways through a piece of code meet: one frame, and R of the world. -/
def meets (A : Act) (R : World → Prop) : Exit → Act → World → Prop
  | .normal, a, W => a = A ∧ R W
  | _, _, _ => False
theorem wpIn_meet {F : Fence} {n : Nat} {P : Program} {c : Code} {Q : Exit → Act → World → Prop} {a : Act} {w : World} (R : World → Prop) {A : Act} (h : c.wpIn F n P (meets A R) a w) (k : ∀ W', R W' → Q .normal A W') : c.wpIn F n P Q a w :=
  Code.wpIn_mono (Q := meets A R) (fun e a W hq => by cases e <;> first | exact hq.elim | (obtain ⟨rfl, hr⟩ := hq; exact k _ hr)) h

theorem prefix_at {q : Nat} (pre : List (Fin q)) (i : Fin q) (h : pre ++ [i] <+: List.finRange q) : i.val = pre.length := by
  have hle := h.length_le
  rw [List.length_append, List.length_finRange] at hle
  simp at hle
  rw [List.prefix_iff_getElem?] at h
  have h2 := h pre.length (by simp)
  rw [fins_at q pre.length (by omega)] at h2
  simp at h2
  rw [← h2]

/-- A struct of the law's own stays as it was. -/
theorem St.obj {w0 W W' : World} {R0 M0 mb room b k : Nat} {v mv v' : Value} {xs ys : List Int} {cs : Array Value} (h : St w0 W R0 M0 mb room b v mv xs ys) (ho : W.heap[k]? = some (.cells cs 38 (0, 0))) (hT : Turn W W' b v v') : W'.heap[k]? = some (.cells cs 38 (0, 0)) :=
  (hT.block k (Array.getElem?_eq_some_iff.1 ho).1 (tyne ho h.p.blk (by decide)) (h.p.sl.tyne ho (by decide))).trans ho
theorem len_any' {b room q : Nat} {v : Value} {xs : List Int} {W : World} (h : IPool W b v room xs) (hq : q = xs.length) (n : Nat) : Calls Try.prog 14 #[.pointer (some ⟨b, 0, none⟩)] (W.drewN n) fun e w' => e = .returned (.int .i64 (q : Int)) ∧ w' = W.drewN n :=
  (len_any b v room xs _ (h.drewN n)).mono fun e w' ⟨h1, h2⟩ => ⟨by rw [h1, hq], h2.symm⟩
theorem room_any' {b room q : Nat} {v : Value} {xs : List Int} {W : World} (h : IPool W b v room xs) (hq : q = xs.length) (hl : xs.length ≤ room) (hr : room ≤ 65536) (n : Nat) : Calls Try.prog 15 #[.pointer (some ⟨b, 0, none⟩)] (W.drewN n) fun e w' => e = .returned (.int .i64 ((room : Int) - (q : Int))) ∧ ∃ m, w' = (W.drewN n).drewN m := by
  subst hq
  exact room_any b v room xs _ (h.drewN n) hl hr
theorem form_of {W : World} {b room q : Nat} {v : Value} {xs : List Int} (h : RPool W b v room xs) (hq : q = xs.length) : ∃ ad cap, v = .slice ad q cap := by
  obtain ⟨ad, cap, hv⟩ := h.sl.form
  rw [List.length_map, ← hq] at hv
  exact ⟨ad, cap, hv⟩

set_option maxRecDepth 1000000 in
set_option maxHeartbeats 16000000 in
theorem plays_some (room : Nat) (os : List (Int × Int × Int)) (ao : Option Addr) (lenO capO : Nat) (w : World) (hlo : lenO = os.length) (hao : OpsAt w ao os) (h3 : lenO ≤ 300) (h1 : 1 ≤ room) (h2 : room ≤ 65536) :
    Calls Try.prog 4 #[.int .i64 (room : Int), .slice ao lenO capO] w fun e w' => e = .returned (.bool true) ∧ Below w.heap.size w w' := by
  refine (callsIn_wide (n := 5)).1 ?_
  have hmix : Try.prog.follows .mixedOrders = true := by kernel_rfl
  have HAO := Lib.hid hao
  have HLO := Lib.hid hlo
  have HN := Lib.hid (fun w => new_ok room w h1 h2)
  have HRN := Lib.hid (fun w => rnew_ok room w h1 h2)
  clear hao hlo
  refine callsIn_of_wp_marks Try.func4 rfl trivial ?_ rfl
  simp only [Try.ntmps4, List.size_toArray, List.length_cons, List.length_nil, Nat.reduceAdd, Nat.reduceSub, Array.replicate_succ, Array.replicate_zero, List.push_toArray, List.append_toArray, List.nil_append, List.cons_append]
  gi_wp2_with (first
    | (gi_at_call 12; refine (callsIn_wide.2 (ps.works_any _)).mono ?_; rintro e w1 ⟨rfl, hb1⟩; obtain ⟨hv1, hs1, hw1⟩ := one_box hb1; clear hb1)
    | (gi_at_call 11; refine (callsIn_wide.2 (HN.out _)).mono ?_; rintro e w2 ⟨rfl, hw2⟩; obtain ⟨hv2, hs2⟩ := box_alloc hv1 hw2; have hp2 : IPool w2 w1.heap.size (.slice none 0 0) room [] := pool_new hw2; have hb2 := below_alloc hw1 (by omega) hw2; clear hw2 hv1 hw1)
    | (gi_at_call 18; refine (callsIn_wide.2 (HRN.out _)).mono ?_; rintro e w3 ⟨rfl, hw3⟩; obtain ⟨hv3, hs3⟩ := box_alloc hv2 hw3; have hm3 : RPool w3 w2.heap.size (.slice none 0 0) room [] := pool_new hw3; have hp3 : IPool w3 w1.heap.size (.slice none 0 0) room [] := pool_alloc hp2 hw3; have hb3 := below_alloc hb2 (by omega) hw3; clear hw3 hv2 hb2 hp2))
  rw [hs2] at hm3
  have hM := Boxed.new w3 34 (.pointer (some ⟨w1.heap.size + 1, 0, none⟩))
  rw [hs3, hs2] at hM
  have hst0 : St w (w3.alloc (.cells #[.pointer (some ⟨w1.heap.size + 1, 0, none⟩)] 34)) w.heap.size (w1.heap.size + 1 + 1) (w1.heap.size + 1) room w1.heap.size (.slice none 0 0) (.slice none 0 0) [] [] :=
    ⟨Go.Boxed.alloc hv3 _, hM, Pool.alloc hp3 _, Pool.alloc hm3 _, Nat.zero_le _, Nat.zero_le _, hb3.alloc (by omega) _, by omega, by omega, fun k hk => by simp [Value.ownBlock] at hk, fun k hk => by simp [Value.ownBlock] at hk, .inl rfl⟩
  clear hM hv3 hp3 hm3 hb3
  gi_loopw [5, 6, 8, 46] (fun p e f i W => ∃ (j b : Nat) (v mv : Value) (c : Int) (xs : List Int), j ≤ lenO ∧ i = .int .i64 (j : Int) ∧ p = .pointer (some ⟨b, 0, none⟩) ∧ e = .int .i64 c ∧ f = .int .i64 c ∧ St w W w.heap.size (w1.heap.size + 1 + 1) (w1.heap.size + 1) room b v mv xs xs) (fun _ _ _ i _ => lenO - (intOf i).toNat)
  case atStart =>
    exact ⟨0, _, _, _, 0, _, Nat.zero_le _, rfl, rfl, rfl, rfl, hst0⟩
  case round =>
    clear hst0 hs2 hs3
    obtain ⟨j, b, v, mv, c, xs, hj, rfl, rfl, rfl, rfl, hst⟩ := hrel
    have HST := Lib.hid hst
    have hws := hst.below.size
    clear hst
    by_cases hlt : j < lenO
    · obtain ⟨⟨kk, ii, xx⟩, hx⟩ : ∃ x, os[j]? = some x := ⟨_, List.getElem?_eq_getElem (by have := HLO.out; omega)⟩
      obtain ⟨g, off, rfl, hc0, hc1, hc2⟩ := (HAO.out.below HST.out.below) j _ hx
      have hc1' := hc1
      have hc2' := hc2
      rw [← Nat.add_assoc] at hc1' hc2'
      clear hx
      have bo : (wr.alloc (.cells #[.int .i64 kk, .int .i64 ii, .int .i64 xx] 38)).heap[wr.heap.size]? = some (.cells #[.int .i64 kk, .int .i64 ii, .int .i64 xx] 38 (0, 0)) := heap_alloc_new _ _
      have hso : St w (wr.alloc (.cells #[.int .i64 kk, .int .i64 ii, .int .i64 xx] 38)) w.heap.size (w1.heap.size + 1 + 1) (w1.heap.size + 1) room b v mv xs xs := HST.out.more ((Below.refl _ _).alloc (Nat.le_refl _) _)
      obtain ⟨Wo, hWo⟩ : ∃ Wo, Wo = wr.alloc (.cells #[.int .i64 kk, .int .i64 ii, .int .i64 xx] 38) := ⟨_, rfl⟩
      rw [← hWo] at bo hso
      have HWO := Lib.hid hWo
      have HSO := Lib.hid hso
      have HBO := Lib.hid bo
      have ho1 : Wo.cell? ⟨wr.heap.size, 1, none⟩ = some (.int .i64 ii) := by simp [World.cell?, bo]
      have ho2 : Wo.cell? ⟨wr.heap.size, 2, none⟩ = some (.int .i64 xx) := by simp [World.cell?, bo]
      have hMo := Go.Boxed.cell hso.mm
      clear hWo hso bo
      by_cases hk0 : kk = 0
      · as_aux_lemma =>
          subst hk0
          by_cases hfl : xs.length < room
          · have HPU := Lib.hid (put_ok b v room xs xx _ (HSO.out.p.drewN 1) hfl h2)
            have hfl2 : (xs ++ [xx]).length ≤ room := by simp; omega
            have HFL := Lib.hid (And.intro hfl hfl2)
            clear hfl hfl2
            gi_wp2
            rw [← HWO.out]
            apply wpIn_meet (fun W' => ∃ v4 mv5, St w W' w.heap.size (w1.heap.size + 1 + 1) (w1.heap.size + 1) room b v4 mv5 (xs ++ [xx]) (xs ++ [xx]))
            case h =>
              gi_region_with_o (first
                | (gi_at_call 13; refine (callsIn_wide.2 HPU.out).mono ?_; rintro e w4 ⟨rfl, v4, hp4, ht4⟩; have hs4 := (HSO.out.drewN 1).turnP ht4 hp4 HFL.out.2; have hob4 := (HSO.out.drewN 1).obj HBO.out ht4; have ho42 : w4.cell? ⟨wr.heap.size, 2, none⟩ = some (.int .i64 xx) := (by simp [World.cell?, hob4]); have hM4 := Go.Boxed.cell hs4.mm; have HS4 := Lib.hid hs4; clear hp4 ht4 hob4 hs4)
                | (gi_at_call 19; refine (callsIn_wide.2 (rput_ok _ _ room xs xx _ HS4.out.m HFL.out.1 h2)).mono ?_; rintro e w5 ⟨rfl, mv5, hm5, ht5⟩; have HS5 := Lib.hid (HS4.out.turnM ht5 hm5 HFL.out.2); clear hm5 ht5))
              all_goals
                go_simp
                exact ⟨rfl, v4, mv5, HS5.out⟩
            case k =>
              rintro w5 ⟨v4, mv5, hs5⟩
              have HS5 := Lib.hid hs5
              clear hs5
              obtain ⟨q, hq⟩ : ∃ q, q = (xs ++ [xx]).length := ⟨_, rfl⟩
              have hlq : q ≤ room := by rw [hq]; exact HS5.out.lenx
              have HLn := Lib.hid (len_any' HS5.out.p hq)
              have HRm := Lib.hid (room_any' HS5.out.p hq HS5.out.lenx h2)
              obtain ⟨adm, capm, hmv⟩ := form_of HS5.out.m hq
              have hcm0 := HS5.out.m.cell0
              have hcm1 := HS5.out.m.cell1
              have hM5 := Go.Boxed.cell HS5.out.mm
              rw [hmv] at hcm0
              have e1 : ((q : Int) != (q : Int)) = false := by simp
              have e2 : ((room : Int) - (q : Int) != (room : Int) - (q : Int)) = false := by simp
              clear hq hmv
              gi_wp2_with fail
              gi_quiet (first
                | (gi_at_call 14; exact CallsIn.quiet_of_same (callsIn_wide.2 (HLn.out _)))
                | (gi_at_call 15; exact CallsIn.quiet_of (callsIn_wide.2 (HRm.out _))))
              gi_wp2_with fail
              go_roundw
              case rel => exact ⟨j + 1, b, v4, mv5, 0, xs ++ [xx], by omega, by go_num, rfl, rfl, rfl, HS5.out.drewN nq⟩
              case measure => simp [intOf]; omega
          · have HPU := Lib.hid (put_full b v room xs xx _ (HSO.out.p.drewN 1) (by have := HSO.out.lenx; omega) h2)
            have HFL := Lib.hid (show xs.length = room by have := HSO.out.lenx; omega)
            clear hfl
            gi_wp2
            rw [← HWO.out]
            apply wpIn_meet (fun W' => St w W' w.heap.size (w1.heap.size + 1 + 1) (w1.heap.size + 1) room b v mv xs xs)
            case h =>
              gi_region_with_o (first
                | (gi_at_call 13; refine (callsIn_wide.2 HPU.out).mono ?_; rintro e w4 ⟨rfl, n4, hw4⟩; have hs4 : St _ w4 _ _ _ _ _ _ _ _ _ := (by rw [hw4]; exact (HSO.out.drewN 1).drewN n4); have ho42 : w4.cell? ⟨wr.heap.size, 2, none⟩ = some (.int .i64 xx) := (by rw [hw4]; exact ho2); have hM4 := Go.Boxed.cell hs4.mm; have HS4 := Lib.hid hs4; clear hs4 hw4)
                | (gi_at_call 19; refine (callsIn_wide.2 (rput_full _ _ room xs xx _ HS4.out.m HFL.out)).mono ?_; rintro e w5 ⟨rfl, n5, hw5⟩; have hs5 : St _ w5 _ _ _ _ _ _ _ _ _ := (by rw [hw5]; exact HS4.out.drewN n5); have HS5 := Lib.hid hs5; clear hs5 hw5))
              all_goals
                go_simp
                exact ⟨rfl, HS5.out⟩
            case k =>
              intro w5 hs5
              have HS5 := Lib.hid hs5
              clear hs5
              obtain ⟨q, hq⟩ : ∃ q, q = (xs).length := ⟨_, rfl⟩
              have hlq : q ≤ room := by rw [hq]; exact HS5.out.lenx
              have HLn := Lib.hid (len_any' HS5.out.p hq)
              have HRm := Lib.hid (room_any' HS5.out.p hq HS5.out.lenx h2)
              obtain ⟨adm, capm, hmv⟩ := form_of HS5.out.m hq
              have hcm0 := HS5.out.m.cell0
              have hcm1 := HS5.out.m.cell1
              have hM5 := Go.Boxed.cell HS5.out.mm
              rw [hmv] at hcm0
              have e1 : ((q : Int) != (q : Int)) = false := by simp
              have e2 : ((room : Int) - (q : Int) != (room : Int) - (q : Int)) = false := by simp
              clear hq hmv
              gi_wp2_with fail
              gi_quiet (first
                | (gi_at_call 14; exact CallsIn.quiet_of_same (callsIn_wide.2 (HLn.out _)))
                | (gi_at_call 15; exact CallsIn.quiet_of (callsIn_wide.2 (HRm.out _))))
              gi_wp2_with fail
              go_roundw
              case rel => exact ⟨j + 1, b, v, mv, 7, xs, by omega, by go_num, rfl, rfl, rfl, HS5.out.drewN nq⟩
              case measure => simp [intOf]; omega
      · by_cases hk1 : kk = 1
        · as_aux_lemma =>
            subst hk1
            by_cases hin : ii < 0 ∨ (xs.length : Int) ≤ ii
            · have HTO := Lib.hid (take_out b v room xs ii _ HSO.out.p hin)
              have HRO := Lib.hid (rtake_out _ mv room xs ii _ HSO.out.m hin)
              clear hin hk0
              gi_wp2_with (first
                | (gi_at_call 9; rw [← HWO.out]; refine (callsIn_wide.2 HTO.out).mono ?_; rintro e w' ⟨rfl, rfl⟩)
                | (gi_at_call 20; refine (callsIn_wide.2 HRO.out).mono ?_; rintro e w' ⟨rfl, rfl⟩)
                | fail)
              obtain ⟨q, hq⟩ : ∃ q, q = (xs).length := ⟨_, rfl⟩
              have hlq : q ≤ room := by rw [hq]; exact HSO.out.lenx
              have HLn := Lib.hid (len_any' HSO.out.p hq)
              have HRm := Lib.hid (room_any' HSO.out.p hq HSO.out.lenx h2)
              obtain ⟨adm, capm, hmv⟩ := form_of HSO.out.m hq
              have hcm0 := HSO.out.m.cell0
              have hcm1 := HSO.out.m.cell1
              have hM5 := Go.Boxed.cell HSO.out.mm
              rw [hmv] at hcm0
              have e1 : ((q : Int) != (q : Int)) = false := by simp
              have e2 : ((room : Int) - (q : Int) != (room : Int) - (q : Int)) = false := by simp
              clear hq hmv
              gi_wp2_with fail
              gi_quiet (first
                | (gi_at_call 14; exact CallsIn.quiet_of_same (callsIn_wide.2 (HLn.out _)))
                | (gi_at_call 15; exact CallsIn.quiet_of (callsIn_wide.2 (HRm.out _))))
              gi_wp2_with fail
              go_roundw
              case rel => exact ⟨j + 1, b, v, mv, 5, xs, by omega, by go_num, rfl, rfl, rfl, HSO.out.drewN nq⟩
              case measure => simp [intOf]; omega
            · obtain ⟨t, rfl⟩ : ∃ t : Nat, ii = (t : Int) := ⟨ii.toNat, by omega⟩
              obtain ⟨y, hy⟩ : ∃ y, xs[t]? = some y := ⟨_, List.getElem?_eq_getElem (by omega)⟩
              have hxr : xs.length ≤ 65536 := by have := HSO.out.lenx; omega
              have HTI := Lib.hid (take_in b v room xs t y _ HSO.out.p hy hxr)
              have hle : (xs.eraseIdx t).length ≤ room := Nat.le_trans (erase_le xs t) HSO.out.lenx
              have HRI := Lib.hid (fun W (h : RPool W (w1.heap.size + 1) mv room xs) => rtake_in (w1.heap.size + 1) mv room xs t y W h hy hxr)
              have HLE := Lib.hid hle
              have hyy : (y != y) = false := by simp
              clear hin hk0 hy hxr hle
              gi_wp2_with (first
                | (gi_at_call 9; rw [← HWO.out]; refine (callsIn_wide.2 HTI.out).mono ?_; rintro e w4 ⟨rfl, v4, hp4, ht4⟩; have hs4 := HSO.out.turnP ht4 hp4 HLE.out; have hob4 := HSO.out.obj HBO.out ht4; have ho41 : w4.cell? ⟨wr.heap.size, 1, none⟩ = some (.int .i64 (t : Int)) := (by simp [World.cell?, hob4]); have hM4 := Go.Boxed.cell hs4.mm; have HS4 := Lib.hid hs4; clear hp4 ht4 hob4 hs4)
                | (gi_at_call 20; refine (callsIn_wide.2 (HRI.out _ HS4.out.m)).mono ?_; rintro e w5 ⟨rfl, mv5, hm5, ht5⟩; have HS5 := Lib.hid (HS4.out.turnM ht5 hm5 HLE.out); clear hm5 ht5)
                | fail)
              obtain ⟨q, hq⟩ : ∃ q, q = (xs.eraseIdx t).length := ⟨_, rfl⟩
              have hlq : q ≤ room := by rw [hq]; exact HS5.out.lenx
              have HLn := Lib.hid (len_any' HS5.out.p hq)
              have HRm := Lib.hid (room_any' HS5.out.p hq HS5.out.lenx h2)
              obtain ⟨adm, capm, hmv⟩ := form_of HS5.out.m hq
              have hcm0 := HS5.out.m.cell0
              have hcm1 := HS5.out.m.cell1
              have hM5 := Go.Boxed.cell HS5.out.mm
              rw [hmv] at hcm0
              have e1 : ((q : Int) != (q : Int)) = false := by simp
              have e2 : ((room : Int) - (q : Int) != (room : Int) - (q : Int)) = false := by simp
              clear hq hmv
              gi_wp2_with fail
              gi_quiet (first
                | (gi_at_call 14; exact CallsIn.quiet_of_same (callsIn_wide.2 (HLn.out _)))
                | (gi_at_call 15; exact CallsIn.quiet_of (callsIn_wide.2 (HRm.out _))))
              gi_wp2_with fail
              go_roundw
              case rel => exact ⟨j + 1, b, v4, mv5, 0, xs.eraseIdx t, by omega, by go_num, rfl, rfl, rfl, HS5.out.drewN nq⟩
              case measure => simp [intOf]; omega
        · by_cases hk2 : kk = 2
          · as_aux_lemma =>
              subst hk2
              by_cases hin : ii < 0 ∨ (xs.length : Int) ≤ ii
              · have HAO2 := Lib.hid (at_out b v room xs ii _ HSO.out.p hin)
                obtain ⟨qa, hqa⟩ : ∃ q, q = xs.length := ⟨_, rfl⟩
                obtain ⟨ada, capa, hmva⟩ := form_of HSO.out.m hqa
                have hca0 := HSO.out.m.cell0
                rw [hmva] at hca0
                rw [← hqa] at hin
                clear hqa hmva hk0 hk1
                by_cases hneg : ii < 0
                · have g0 : decide (0 ≤ ii) = false := by simp; omega
                  clear hin hneg
                  gi_wp2_with (gi_at_call 10; rw [← HWO.out]; refine (callsIn_wide.2 HAO2.out).mono ?_; rintro e w' ⟨rfl, rfl⟩)
                  gi_quiet (fail)
                  obtain ⟨w5, hw5⟩ : ∃ w5, w5 = Wo.drewN nq := ⟨_, rfl⟩
                  have HS5 : Hid (St _ w5 _ _ _ _ _ _ _ _ _) := Lib.hid (by rw [hw5]; exact HSO.out.drewN nq)
                  rw [← hw5]
                  clear hw5
                  obtain ⟨q, hq⟩ : ∃ q, q = (xs).length := ⟨_, rfl⟩
                  have hlq : q ≤ room := by rw [hq]; exact HS5.out.lenx
                  have HLn := Lib.hid (len_any' HS5.out.p hq)
                  have HRm := Lib.hid (room_any' HS5.out.p hq HS5.out.lenx h2)
                  obtain ⟨adm, capm, hmv⟩ := form_of HS5.out.m hq
                  have hcm0 := HS5.out.m.cell0
                  have hcm1 := HS5.out.m.cell1
                  have hM5 := Go.Boxed.cell HS5.out.mm
                  rw [hmv] at hcm0
                  have e1 : ((q : Int) != (q : Int)) = false := by simp
                  have e2 : ((room : Int) - (q : Int) != (room : Int) - (q : Int)) = false := by simp
                  clear hq hmv
                  gi_wp2_with fail
                  gi_quiet (first
                    | (gi_at_call 14; exact CallsIn.quiet_of_same (callsIn_wide.2 (HLn.out _)))
                    | (gi_at_call 15; exact CallsIn.quiet_of (callsIn_wide.2 (HRm.out _))))
                  gi_wp2_with fail
                  go_roundw
                  case rel => exact ⟨j + 1, b, v, mv, 5, xs, by omega, by go_num, rfl, rfl, rfl, HS5.out.drewN nq⟩
                  case measure => simp [intOf]; omega
                · have g0 : decide (0 ≤ ii) = true := by simp; omega
                  have g1 : decide (ii < (qa : Int)) = false := by simp; omega
                  have g2 : 0 ≤ ii := by omega
                  clear hin hneg
                  gi_wp2_with (gi_at_call 10; rw [← HWO.out]; refine (callsIn_wide.2 HAO2.out).mono ?_; rintro e w' ⟨rfl, rfl⟩)
                  gi_quiet (fail)
                  obtain ⟨w5, hw5⟩ : ∃ w5, w5 = Wo.drewN nq := ⟨_, rfl⟩
                  have HS5 : Hid (St _ w5 _ _ _ _ _ _ _ _ _) := Lib.hid (by rw [hw5]; exact HSO.out.drewN nq)
                  rw [← hw5]
                  clear hw5
                  obtain ⟨q, hq⟩ : ∃ q, q = (xs).length := ⟨_, rfl⟩
                  have hlq : q ≤ room := by rw [hq]; exact HS5.out.lenx
                  have HLn := Lib.hid (len_any' HS5.out.p hq)
                  have HRm := Lib.hid (room_any' HS5.out.p hq HS5.out.lenx h2)
                  obtain ⟨adm, capm, hmv⟩ := form_of HS5.out.m hq
                  have hcm0 := HS5.out.m.cell0
                  have hcm1 := HS5.out.m.cell1
                  have hM5 := Go.Boxed.cell HS5.out.mm
                  rw [hmv] at hcm0
                  have e1 : ((q : Int) != (q : Int)) = false := by simp
                  have e2 : ((room : Int) - (q : Int) != (room : Int) - (q : Int)) = false := by simp
                  clear hq hmv
                  gi_wp2_with fail
                  gi_quiet (first
                    | (gi_at_call 14; exact CallsIn.quiet_of_same (callsIn_wide.2 (HLn.out _)))
                    | (gi_at_call 15; exact CallsIn.quiet_of (callsIn_wide.2 (HRm.out _))))
                  gi_wp2_with fail
                  go_roundw
                  case rel => exact ⟨j + 1, b, v, mv, 5, xs, by omega, by go_num, rfl, rfl, rfl, HS5.out.drewN nq⟩
                  case measure => simp [intOf]; omega
              · obtain ⟨t, rfl⟩ : ∃ t : Nat, ii = (t : Int) := ⟨ii.toNat, by omega⟩
                obtain ⟨y, hy⟩ : ∃ y, xs[t]? = some y := ⟨_, List.getElem?_eq_getElem (by omega)⟩
                have HAI2 := Lib.hid (at_in b v room xs t y _ HSO.out.p hy)
                obtain ⟨qa, hqa⟩ : ∃ q, q = xs.length := ⟨_, rfl⟩
                obtain ⟨ada, capa, hmva⟩ := form_of HSO.out.m hqa
                have hca0 := HSO.out.m.cell0
                have hsl := HSO.out.m.sl
                rw [hmva] at hca0 hsl
                obtain ⟨ga, offa, rfl, hcella⟩ := hsl.cellAt t (I y) (by simp [hy])
                unfold I at hcella
                have htq : t < qa := by omega
                have g1 : decide ((t : Int) < (qa : Int)) = true := by simp; omega
                have g0 : decide ((0 : Int) ≤ (t : Int)) = true := by simp
                have hyy : (y != y) = false := by simp
                clear hqa hmva hk0 hk1 hin hy hsl
                gi_wp2_with (gi_at_call 10; rw [← HWO.out]; refine (callsIn_wide.2 HAI2.out).mono ?_; rintro e w' ⟨rfl, rfl⟩)
                gi_quiet (fail)
                obtain ⟨na, hna⟩ : ∃ n, n = nq := ⟨_, rfl⟩
                rw [← hna]
                clear hna
                gi_wp2_with fail
                gi_quiet (fail)
                gi_wp2_with fail
                obtain ⟨w5, hw5⟩ : ∃ w5, w5 = Wo.drewN (na + nq) := ⟨_, rfl⟩
                have HS5 : Hid (St _ w5 _ _ _ _ _ _ _ _ _) := Lib.hid (by rw [hw5]; exact HSO.out.drewN (na + nq))
                try rw [World.drewN_drewN]
                rw [← hw5]
                clear hw5
                obtain ⟨q, hq⟩ : ∃ q, q = (xs).length := ⟨_, rfl⟩
                have hlq : q ≤ room := by rw [hq]; exact HS5.out.lenx
                have HLn := Lib.hid (len_any' HS5.out.p hq)
                have HRm := Lib.hid (room_any' HS5.out.p hq HS5.out.lenx h2)
                obtain ⟨adm, capm, hmv⟩ := form_of HS5.out.m hq
                have hcm0 := HS5.out.m.cell0
                have hcm1 := HS5.out.m.cell1
                have hM5 := Go.Boxed.cell HS5.out.mm
                rw [hmv] at hcm0
                have e1 : ((q : Int) != (q : Int)) = false := by simp
                have e2 : ((room : Int) - (q : Int) != (room : Int) - (q : Int)) = false := by simp
                clear hq hmv
                gi_wp2_with fail
                gi_quiet (first
                  | (gi_at_call 14; exact CallsIn.quiet_of_same (callsIn_wide.2 (HLn.out _)))
                  | (gi_at_call 15; exact CallsIn.quiet_of (callsIn_wide.2 (HRm.out _))))
                gi_wp2_with fail
                go_roundw
                case rel => exact ⟨j + 1, b, v, _, 0, xs, by omega, by go_num, rfl, rfl, rfl, HS5.out.drewN nq⟩
                case measure => simp [intOf]; omega
          · by_cases hk3 : kk = 3
            · as_aux_lemma =>
                subst hk3
                have HCP := Lib.hid (copy_any b v room xs _ HSO.out.p (by have := HSO.out.lenx; omega))
                have hcc : (c != c) = false := by simp
                clear hk0 hk1 hk2
                gi_wp2_with (first
                  | (gi_at_call 17; rw [← HWO.out]; refine (callsIn_wide.2 HCP.out).mono ?_; rintro e w4 ⟨b4, v4, rfl, hb4, hp4, hg4, hv4⟩; have HP4 := Lib.hid hp4; have HG4 := Lib.hid hg4; have HV4 := Lib.hid hv4; have HS4 := Lib.hid (HSO.out.more ((Below.refl _ _).grown hg4 (Nat.le_refl _) (fun k e => by cases e))); clear hp4 hg4 hv4)
                  | (gi_at_call 13; refine (callsIn_wide.2 (put_some b v room xs (-1) w4 HS4.out.p HSO.out.lenx h2)).mono ?_; rintro e w5 ⟨c5, v5, ys5, rfl, hp5, hl5, ht5⟩; have HP5 := Lib.hid hp5; have HL5 := Lib.hid hl5; have HT5 := Lib.hid ht5; clear hp5 hl5 ht5)
                  | (gi_at_call 9; refine (callsIn_wide.2 (take_some b v5 room ys5 0 w5 HP5.out HL5.out h2)).mono ?_; rintro e w6 ⟨x6, c6, v6, ys6, rfl, hp6, hl6, ht6⟩; have HS6 := Lib.hid (HSO.out.copied HG4.out hb4 HP4.out HV4.out HT5.out HP5.out HL5.out ht6 hp6 hl6); clear hp6 hl6 ht6))
                obtain ⟨q, hq⟩ : ∃ q, q = (xs).length := ⟨_, rfl⟩
                have hlq : q ≤ room := by rw [hq]; exact HS6.out.lenx
                have HLn := Lib.hid (len_any' HS6.out.p hq)
                have HRm := Lib.hid (room_any' HS6.out.p hq HS6.out.lenx h2)
                obtain ⟨adm, capm, hmv⟩ := form_of HS6.out.m hq
                have hcm0 := HS6.out.m.cell0
                have hcm1 := HS6.out.m.cell1
                have hM5 := Go.Boxed.cell HS6.out.mm
                rw [hmv] at hcm0
                have e1 : ((q : Int) != (q : Int)) = false := by simp
                have e2 : ((room : Int) - (q : Int) != (room : Int) - (q : Int)) = false := by simp
                clear hq hmv
                gi_wp2_with fail
                gi_quiet (first
                  | (gi_at_call 14; exact CallsIn.quiet_of_same (callsIn_wide.2 (HLn.out _)))
                  | (gi_at_call 15; exact CallsIn.quiet_of (callsIn_wide.2 (HRm.out _))))
                gi_wp2_with fail
                go_roundw
                case rel => exact ⟨j + 1, b4, v4, mv, c, xs, by omega, by go_num, rfl, rfl, rfl, HS6.out.drewN nq⟩
                case measure => simp [intOf]; omega
            · by_cases hk4 : kk = 4
              · as_aux_lemma =>
                  subst hk4
                  have HF := Lib.hid (first_any b wr.heap.size v room xs xx _ HSO.out.p (by have := HSO.out.lenx; omega) ho2)
                  have hcc : (c != c) = false := by simp
                  obtain ⟨qa, hqa⟩ : ∃ q, q = xs.length := ⟨_, rfl⟩
                  obtain ⟨ada, capa, hmva⟩ := form_of HSO.out.m hqa
                  have hca0 := HSO.out.m.cell0
                  rw [hmva] at hca0
                  have hqr : qa ≤ 65536 := by have := HSO.out.lenx; omega
                  have HQA := Lib.hid hqa
                  have HMV := Lib.hid hmva
                  have HMB := Lib.hid HSO.out.m.lt
                  have HOB := Lib.hid (World.block_lt_of_cell? Wo _ ho2)
                  clear hk0 hk1 hk2 hk3 hqa hmva
                  gi_wp2_with (gi_at_call 16; rw [← HWO.out]; refine (callsIn_wide.2 HF.out).mono ?_; rintro e w4 ⟨rfl, hb4⟩; have HS4 := Lib.hid (HSO.out.more hb4); have hca4 := (hb4.cell (p := ⟨w1.heap.size + 1, 0, none⟩) HMB.out).trans hca0; have hM4 := Go.Boxed.cell HS4.out.mm; have ho42 := (hb4.cell (p := ⟨wr.heap.size, 2, none⟩) HOB.out).trans ho2; clear hb4)
                  obtain ⟨z, hz⟩ : ∃ z, z = ff xs xx 0 := ⟨_, rfl⟩
                  rw [← hz]
                  have HZ := Lib.hid hz
                  have hzz : (z != z) = false := by simp
                  clear hz
                  gi_loopw [12, 14] (fun y i W => ∃ t n : Nat, t ≤ qa ∧ ((t = 0 ∧ i = .int .i64 (-1)) ∨ ∃ t' : Nat, t = t' + 1 ∧ i = .int .i64 (t' : Int)) ∧ y = .int .i64 (ff xs xx t) ∧ W = w4.drewN n) (fun _ i _ => ((intOf i) + 1).toNat)
                  case atStart =>
                    have hend : (-1 : Int) = ff xs xx qa := (ff_end (by have := HQA.out; omega)).symm
                    by_cases h0 : qa = 0
                    · exact ⟨0, 0, by omega, .inl ⟨rfl, by rw [h0]; rfl⟩, by rw [h0] at hend; rw [← hend], rfl⟩
                    · exact ⟨qa, 0, Nat.le_refl _, .inr ⟨qa - 1, by omega, by congr 1; omega⟩, by rw [← hend], rfl⟩
                  case round =>
                    obtain ⟨t, n, ht, hor, rfl, hwr⟩ := hrel
                    have HWR := Lib.hid hwr
                    have keep : ∀ a u, w4.cell? a = some u → wr.cell? a = some u := by
                      intro a u h; rw [hwr]; exact h
                    have hcaw := keep _ _ hca4
                    have hMw := keep _ _ hM4
                    have how := keep _ _ ho42
                    have hs5 := HS4.out.drewN n
                    rw [← hwr] at hs5
                    have hsl := hs5.m.sl
                    rw [HMV.out] at hsl
                    have HS5 := Lib.hid hs5
                    clear keep hwr hs5
                    rcases hor with ⟨rfl, rfl⟩ | ⟨t', rfl, rfl⟩
                    · rw [← HZ.out]
                      clear hsl hcaw
                      obtain ⟨q, hq⟩ : ∃ q, q = (xs).length := ⟨_, rfl⟩
                      have hlq : q ≤ room := by rw [hq]; exact HS5.out.lenx
                      have HLn := Lib.hid (len_any' HS5.out.p hq)
                      have HRm := Lib.hid (room_any' HS5.out.p hq HS5.out.lenx h2)
                      obtain ⟨adm, capm, hmv⟩ := form_of HS5.out.m hq
                      have hcm0 := HS5.out.m.cell0
                      have hcm1 := HS5.out.m.cell1
                      have hM5 := Go.Boxed.cell HS5.out.mm
                      rw [hmv] at hcm0
                      have e1 : ((q : Int) != (q : Int)) = false := by simp
                      have e2 : ((room : Int) - (q : Int) != (room : Int) - (q : Int)) = false := by simp
                      clear hq hmv
                      gi_wp2_with fail
                      gi_quiet (first
                        | (gi_at_call 14; exact CallsIn.quiet_of_same (callsIn_wide.2 (HLn.out _)))
                        | (gi_at_call 15; exact CallsIn.quiet_of (callsIn_wide.2 (HRm.out _))))
                      gi_wp2_with fail
                      go_roundw
                      case rel => exact ⟨j + 1, b, v, mv, c, xs, by omega, by go_num, rfl, rfl, rfl, HS5.out.drewN nq⟩
                      case measure => simp [intOf]; omega
                    · obtain ⟨y, hy⟩ : ∃ y, xs[t']? = some y := ⟨_, List.getElem?_eq_getElem (by have := HQA.out; omega)⟩
                      obtain ⟨ga, offa, rfl, hcell⟩ := hsl.cellAt t' (I y) (by simp [hy])
                      have HY := Lib.hid hy
                      unfold I at hcell
                      clear hsl hy
                      by_cases hyx : y = xx
                      · have hb : (y == xx) = true := by simp [hyx]
                        have HYX := Lib.hid hyx
                        clear hyx
                        gi_wp2_with fail
                        gi_quiet (fail)
                        gi_wp2_with fail
                        go_roundw
                        case rel =>
                          refine ⟨t', n + nq, by omega, ?_, by rw [ff_hit (HYX.out ▸ HY.out)], by rw [HWR.out, World.drewN_drewN]⟩
                          cases t' with
                          | zero => exact .inl ⟨rfl, rfl⟩
                          | succ t2 => exact .inr ⟨t2, rfl, by congr 1; omega⟩
                        case measure => first | (simp [intOf]; done) | (simp [intOf]; omega)
                      · have hb : (y == xx) = false := by simp [hyx]
                        have HYX := Lib.hid hyx
                        clear hyx
                        gi_wp2_with fail
                        gi_quiet (fail)
                        gi_wp2_with fail
                        go_roundw
                        case rel =>
                          refine ⟨t', n + nq, by omega, ?_, by rw [ff_miss HY.out HYX.out], by rw [HWR.out, World.drewN_drewN]⟩
                          cases t' with
                          | zero => exact .inl ⟨rfl, rfl⟩
                          | succ t2 => exact .inr ⟨t2, rfl, by congr 1; omega⟩
                        case measure => first | (simp [intOf]; done) | (simp [intOf]; omega)
              · as_aux_lemma =>
                  have e0 : (kk == 0) = false := by simp [hk0]
                  have e1 : (kk == 1) = false := by simp [hk1]
                  have e2' : (kk == 2) = false := by simp [hk2]
                  have e3 : (kk == 3) = false := by simp [hk3]
                  have e4 : (kk == 4) = false := by simp [hk4]
                  have hcc : (c != c) = false := by simp
                  clear hk0 hk1 hk2 hk3 hk4
                  gi_wp2
                  rw [← HWO.out]
                  obtain ⟨q, hq⟩ : ∃ q, q = (xs).length := ⟨_, rfl⟩
                  have hlq : q ≤ room := by rw [hq]; exact HSO.out.lenx
                  have HLn := Lib.hid (len_any' HSO.out.p hq)
                  have HRm := Lib.hid (room_any' HSO.out.p hq HSO.out.lenx h2)
                  obtain ⟨adm, capm, hmv⟩ := form_of HSO.out.m hq
                  have hcm0 := HSO.out.m.cell0
                  have hcm1 := HSO.out.m.cell1
                  have hM5 := Go.Boxed.cell HSO.out.mm
                  rw [hmv] at hcm0
                  have e5 : ((q : Int) != (q : Int)) = false := by simp
                  have e6 : ((room : Int) - (q : Int) != (room : Int) - (q : Int)) = false := by simp
                  clear hq hmv
                  gi_wp2_with fail
                  gi_quiet (first
                    | (gi_at_call 14; exact CallsIn.quiet_of_same (callsIn_wide.2 (HLn.out _)))
                    | (gi_at_call 15; exact CallsIn.quiet_of (callsIn_wide.2 (HRm.out _))))
                  gi_wp2_with fail
                  go_roundw
                  case rel => exact ⟨j + 1, b, v, mv, c, xs, by omega, by go_num, rfl, rfl, rfl, HSO.out.drewN nq⟩
                  case measure => simp [intOf]; omega
    · as_aux_lemma =>
        have hjn : j = lenO := by omega
        subst hjn
        gi_wp2_with (gi_at_call 22; refine (all_in _ _ _).mono ?_; rintro e w' ⟨rfl, rfl⟩)
        have bn := Boxed.new wr 3 (.int .i64 0)
        have bp := Boxed.new (wr.alloc (.cells #[.int .i64 0] 3)) 22 (.pointer (some ⟨b, 0, none⟩))
        rw [World.size_alloc] at bp
        have bn' := bn.alloc (.cells #[.pointer (some ⟨b, 0, none⟩)] 22)
        have hK0 : Below wr.heap.size wr ((wr.alloc (.cells #[.int .i64 0] 3)).alloc (.cells #[.pointer (some ⟨b, 0, none⟩)] 22)) := ((Below.refl _ _).alloc (Nat.le_refl _) _).alloc (by simp) _
        obtain ⟨W0, hW0⟩ : ∃ W0, W0 = ((wr.alloc (.cells #[.int .i64 0] 3)).alloc (.cells #[.pointer (some ⟨b, 0, none⟩)] 22)) := ⟨_, rfl⟩
        have hs0 : W0.heap.size = wr.heap.size + 2 := by rw [hW0]; simp
        rw [← hW0] at bp bn' hK0 ⊢
        have hst1 := HST.out.more hK0
        have hvl : ∀ j, v.ownBlock = some j → j < wr.heap.size := HST.out.p.sl.lt
        have hmvl : ∀ j, mv.ownBlock = some j → j < wr.heap.size := HST.out.m.sl.lt
        have hrl : w.heap.size < wr.heap.size := Go.Boxed.lt HST.out.r
        have hml : w1.heap.size + 1 + 1 < wr.heap.size := Go.Boxed.lt HST.out.mm
        have hmbl := HST.out.m.lt
        have hlr := HST.out.lenx
        obtain ⟨q, hq⟩ : ∃ q, q = xs.length := ⟨_, rfl⟩
        rw [← hq] at hlr
        obtain ⟨ada, capa, hmva⟩ := form_of HST.out.m hq
        have HQ := Lib.hid hq
        have HMV := Lib.hid hmva
        have HS1 := Lib.hid hst1
        clear bn hW0 hq hmva hst1
        apply wpIn_rangeFunc_ownF rfl (by omega) (gf := 32) (lb := #[.pointer (some ⟨wr.heap.size + 1, 0, none⟩)]) rfl trivial (enters_of Try.func32 (by kernel_rfl) rfl)
          (fin_stops (5 - 1) (by omega) (wr.heap.size + 1) b v room q xs HQ.out W0 HS1.out.p (by omega) bp.cell) (fun {A B C} => Same.trans) (Same.put (fun j hj => by have := hvl j hj; omega)) (Below.refl _ _) (fun _ => rfl)
          (fun pre W => (Boxed W w.heap.size 4 (.bool false) ∧ Boxed W (w1.heap.size + 1 + 1) 34 (.pointer (some ⟨w1.heap.size + 1, 0, none⟩)) ∧ RPool W (w1.heap.size + 1) mv room xs ∧ Boxed W wr.heap.size 3 (.int .i64 (pre.length : Int))) ∧ Below w.heap.size w W)
          (fun c ys W => c = .ret ∧ ¬ ys <+: List.finRange q)
          (OwnFrom.and (Own.from (fun s A B row hs hg hr => ⟨boxed_own hs.1 hg hr, boxed_own hs.2.1 hg hr, Pool.own' hs.2.2.1 hg hr, boxed_own hs.2.2.2 hg hr⟩) _) (ownFrom_below (Nat.le_refl _) (by omega)))
          (fun c' _ _ _ _ hs _ _ => hs)
          ⟨⟨HS1.out.r, HS1.out.mm, HS1.out.m, bn'⟩, HS1.out.below⟩
        case hassign =>
          intro l x W K hK
          have HK := Lib.hid hK
          clear hK
          unfold encF
          gi_wp2
          exact HK.out
        case hbody =>
          rintro l pre ⟨i, hi'⟩ W ⟨⟨hr0, hm0, hp0, hn0⟩, hB⟩ hlt'
          obtain ⟨y, hy⟩ : ∃ y, xs[i]? = some y := ⟨_, List.getElem?_eq_getElem (by have := HQ.out; omega)⟩
          have hg : xs[i]?.getD 0 = y := by rw [hy]; rfl
          have HPR := Lib.hid (prefix_at pre ⟨i, hi'⟩)
          have HLX := Lib.hid (show ((pre ++ [(⟨i, hi'⟩ : Fin q)]).length : Int) = (pre.length : Int) + 1 by simp)
          have hnc := Go.Boxed.cell hn0
          have hnf := Go.Boxed.frozen hn0
          have hMc := Go.Boxed.cell hm0
          have hrc := Go.Boxed.cell hr0
          have hrf := Go.Boxed.frozen hr0
          have hmc := hp0.cell0
          have hsl := hp0.sl
          rw [HMV.out] at hmc hsl
          have hs' := hB.size
          have ne : ∀ {k : Nat}, k < wr.heap.size → (W.setCell ⟨wr.heap.size, 0, none⟩ (.int .i64 ((pre.length : Int) + 1))).heap[k]? = W.heap[k]? := fun h => Below.heap_setCell _ _ _ _ (show _ ≠ wr.heap.size by omega)
          have hl2 := Go.Boxed.set (.int .i64 ((pre.length : Int) + 1)) hn0
          have hB2 := hB.setCell (p := ⟨wr.heap.size, 0, none⟩) (by simp; omega) (.int .i64 ((pre.length : Int) + 1))
          have hr2 : Boxed (W.setCell ⟨wr.heap.size, 0, none⟩ (.int .i64 ((pre.length : Int) + 1))) w.heap.size 4 (.bool false) := (ne hrl).trans hr0
          have hm2 : Boxed (W.setCell ⟨wr.heap.size, 0, none⟩ (.int .i64 ((pre.length : Int) + 1))) (w1.heap.size + 1 + 1) 34 (.pointer (some ⟨w1.heap.size + 1, 0, none⟩)) := (ne hml).trans hm0
          have hp2 : RPool (W.setCell ⟨wr.heap.size, 0, none⟩ (.int .i64 ((pre.length : Int) + 1))) (w1.heap.size + 1) mv room xs := hp0.of_block (ne hmbl) fun g hg => ne (hmvl g hg)
          have hsame : Same v W (W.setCell ⟨wr.heap.size, 0, none⟩ (.int .i64 ((pre.length : Int) + 1))) := fun j hj => ne (hvl j hj)
          have HL2 := Lib.hid hl2
          have HP2 := Lib.hid hp2
          obtain ⟨ga, offa, rfl, hcell⟩ := hsl.cellAt i (I y) (by simp [hy])
          unfold I at hcell
          clear hy ne hsl hp0 hl2 hp2
          by_cases hip : i = pre.length
          · have hb : ((i : Int) != (pre.length : Int)) = false := by simp [hip]
            have hyy : (y != y) = false := by simp
            have hpq : pre.length < q := hlt'
            clear hip
            gi_wp2
            exact ⟨KeepsOthers.setCell _ _ _, hsame, ⟨hr2, hm2, HP2.out, by rw [HLX.out]; exact HL2.out⟩, hB2⟩
          · have hb : ((i : Int) != (pre.length : Int)) = true := by simp; omega
            have HIP := Lib.hid hip
            clear hip
            gi_wp2
            exact ⟨KeepsOthers.setCell _ _ _, rfl, fun hpre => HIP.out (HPR.out hpre)⟩
        case hdone =>
          rintro D ys W hD rfl ⟨⟨hr0, hm0, hp0, hn0⟩, hB⟩ hK
          rw [List.length_finRange] at hn0
          have hnc := Go.Boxed.cell hn0
          have hMc := Go.Boxed.cell hm0
          have hrc := Go.Boxed.cell hr0
          have hrf := Go.Boxed.frozen hr0
          have hmc := hp0.cell0
          rw [HMV.out] at hmc
          have heq : ((q : Int) == (q : Int)) = true := by simp
          clear hp0
          gi_wp2_with fail
          apply wpIn_calm
          gi_region_with_o (gi_at_call 12; refine (callsIn_wide.2 (ps.works_any _)).mono ?_; rintro e w5 ⟨rfl, hb5⟩; have hr5 := (show Boxed W.drew w.heap.size 4 (.bool false) from hr0).below hb5 (Go.Boxed.lt hr0); have hrc5 := Go.Boxed.cell hr5; have hrf5 := Go.Boxed.frozen hr5)
          all_goals
            refine calm_normal ?_
            gi_wp2
            exact ends_true rfl hr5 rfl ((hb5.block D (Array.getElem?_eq_some_iff.1 hK).1).trans hK) (by omega) (by omega) (by omega) (hB.drew.trans (hb5.mono hB.size))
        case hstop =>
          rintro D c ys W hD hpre ⟨rfl, hno⟩
          exact absurd hpre hno
end Go.Proofs.Ytkamafkajfajpaa.pp
