/-
  The law MemPlays returns true: the walk. No condition but the bounds that each theorem names.
-/
import Derived.Test.YtcbkfgcjjhifdaaC17
import Derived.Test.YtcbkfgcjjhifdaaC12
namespace Go.Proofs.Ytcbkfgcjjhifdaa.pp
open Go Go.ChangeShapes Go.WideShapes Go.ChangeAt Go.RowKit
set_option linter.unusedVariables false

set_option maxRecDepth 100000 in
set_option maxHeartbeats 1000000 in
theorem plays_err (blocks : Int) (ad : Option Addr) (len cap : Nat) (w : World) (h : 400 < len ∨ blocks < 1 ∨ 256 < blocks) :
    Calls Try.prog 4 #[.int .i64 blocks, .slice ad len cap] w fun e w' => e = .returned (.bool true) ∧ w.grownBy w' none := by
  by_cases h400 : 400 < len
  · have hd : decide ((400 : Int) < (len : Int)) = true := by simp; omega
    clear h
    go_enter Try.func4, Try.ntmps4
    go_wp2_with (go_at_call 15; ((refine (works_any _).mono ?_); rintro e w3 ⟨rfl, hg3⟩))
    go_ret
    exact ⟨rfl, hg3⟩
  · have hd : decide ((400 : Int) < (len : Int)) = false := by simp; omega
    have hb : blocks < 1 ∨ 256 < blocks := by omega
    have HN := Lib.hid (new_err blocks w hb)
    have HR := Lib.hid (rnew_err blocks w hb)
    clear h hb
    go_enter Try.func4, Try.ntmps4
    go_wp2_with (first
      | (go_at_call 10; ((with_reducible refine HN.out.mono ?_); rintro e w' ⟨rfl, rfl⟩))
      | (go_at_call 20; ((with_reducible refine HR.out.mono ?_); rintro e w' ⟨rfl, rfl⟩))
      | (go_at_call 15; ((refine (works_any _).mono ?_); rintro e w3 ⟨rfl, hg3⟩)))
    go_ret
    exact ⟨rfl, hg3⟩

set_option maxRecDepth 100000 in
set_option maxHeartbeats 4000000 in
theorem plays_ok (os : List OpX) (n : Nat) (ad : Option Addr) (len cap : Nat) (w : World) (hlen : len = os.length) (hat : OpsAt w ad os) (h400 : len ≤ 400) (h1 : 1 ≤ n) (h2 : n ≤ 256) :
    Calls Try.prog 4 #[.int .i64 (n : Int), .slice ad len cap] w fun e w' => e = .returned (.bool true) ∧ w.grownBy w' none := by
  have hd : decide ((400 : Int) < (len : Int)) = false := by simp; omega
  have HN := Lib.hid (new_ok n w h1 h2)
  have HRN : Hid (∀ w, _) := Lib.hid (fun w => rnew_ok n w h1 h2)
  have HA := Lib.hid hat
  have HL := Lib.hid hlen
  have H1 := Lib.hid h1
  have hn2 := h2
  clear hat hlen h1 h2
  go_enter Try.func4, Try.ntmps4
  go_wp2_with (first
    | (go_at_call 10; ((with_reducible refine HN.out.mono ?_); rintro e w1 ⟨mb0, mv0, rfl, hm1, hg1, hmb, hv1⟩; have HM1 := Lib.hid hm1; have HG1 := Lib.hid hg1; have HV := Lib.hid hv1; clear hm1 hg1 hv1 hmb))
    | (go_at_call 20; ((with_reducible refine (HRN.out _).mono ?_); rintro e w2 ⟨rb, rv, rfl, hr2, hg2, hrb, hrv⟩; have HST : Hid (PSt w w2 n mb0 rb mv0 rv (List.replicate n zero) (List.replicate n zero)) := Lib.hid ⟨HM1.out.kept hg2, hr2, by simp, by simp, grown_trans HG1.out hg2, HV.out, fun k hk => Nat.le_trans HG1.out.size (hrv k hk)⟩; clear hr2 hg2 hrb hrv)))
  go_loopw [51, 5, 6, 8] (fun i mp e6 e8 wr => ∃ (j mb : Nat) (mv : Value) (bs : List (List Int)) (z : Int), j ≤ len ∧ i = .int .i64 (j : Int) ∧ mp = .pointer (some ⟨mb, 0, none⟩) ∧ e6 = .int .i64 z ∧ e8 = .int .i64 z ∧ PSt w wr n mb rb mv rv bs bs) (fun i _ _ _ _ => len - (intOf i).toNat)
  case atStart => exact ⟨0, mb0, mv0, _, 0, Nat.zero_le _, rfl, rfl, rfl, rfl, HST.out⟩
  case round =>
    obtain ⟨j, mb, mv, bs, z, hj, rfl, rfl, rfl, rfl, hst⟩ := hrel
    have HS := Lib.hid hst
    clear hst
    by_cases hlt : j < len
    · obtain ⟨q, hq⟩ : ∃ q, os[j]? = some q := ⟨_, List.getElem?_eq_getElem (by have := HL.out; omega)⟩
      obtain ⟨g, off, rfl, c0, c1, c2, c3⟩ := (HA.out.grown HS.out.g) j q hq
      rw [← Nat.add_assoc] at c1 c2 c3
      obtain ⟨kd, bk, wd, x⟩ := q
      simp only at c0 c1 c2 c3
      clear hq
      have HGA : Hid (wr.grownBy (wr.alloc (.cells #[.int .i64 kd, .int .i64 bk, .int .i64 wd, .int .u32 x] 46)) none) := Lib.hid (grown_alloc (grown_refl _ _) _)
      have HSA := Lib.hid (HS.out.kept HGA.out)
      have hPA := heap_alloc_new wr (.cells #[.int .i64 kd, .int .i64 bk, .int .i64 wd, .int .u32 x] 46)
      have HPM := Lib.hid (HSA.out.nem hPA (by decide))
      have HPR := Lib.hid (HSA.out.ner hPA (by decide))
      have HPA := Lib.hid hPA
      have hzz : (z != z) = false := by simp
      clear hPA
      have HTR : Hid ((wr.alloc (.cells #[.int .i64 kd, .int .i64 bk, .int .i64 wd, .int .u32 x] 46)).cell? ⟨wr.heap.size, 1, none⟩ = some (.int .i64 bk) ∧ (wr.alloc (.cells #[.int .i64 kd, .int .i64 bk, .int .i64 wd, .int .u32 x] 46)).cell? ⟨wr.heap.size, 2, none⟩ = some (.int .i64 wd) ∧ (wr.alloc (.cells #[.int .i64 kd, .int .i64 bk, .int .i64 wd, .int .u32 x] 46)).cell? ⟨wr.heap.size, 3, none⟩ = some (.int .u32 x)) := Lib.hid ⟨by simp, by simp, by simp⟩
      have HP0 : Hid (some wr.heap.size ≠ (none : Option Nat)) := Lib.hid (by simp)
      by_cases hk0 : kd = 0
      · subst hk0
        clear hzz
        have HSD := Lib.hid HSA.out.drew
        have hee : (err (inn n bk wd) != err (inn n bk wd)) = false := by simp
        go_wp2_with fail
        go_region_held (fun w' => w'.cell? ⟨wr.heap.size, 1, none⟩ = some (.int .i64 bk) ∧ w'.cell? ⟨wr.heap.size, 2, none⟩ = some (.int .i64 wd) ∧ w'.cell? ⟨wr.heap.size, 3, none⟩ = some (.int .u32 x)) (first | exact HTR.out | exact trip_next (by assumption) (by assumption) HP0.out | exact trip_next (by assumption) (by assumption) HPM.out | exact trip_next (by assumption) (by assumption) HPR.out)
          (first
            | (go_at_call 16; ((with_reducible refine (pset HSD.out bk wd x).mono ?_); rintro e w5 ⟨rfl, hs5, hg5⟩; have HS5 := Lib.hid hs5; clear hs5))
            | (go_at_call 21; ((with_reducible refine (rset HS5.out bk wd x).mono ?_); rintro e w6 ⟨rfl, hs6, hg6⟩; have HS6 := Lib.hid hs6; clear hs6)))
        go_wp2_with fail
        go_roundw
        case rel => exact ⟨j + 1, mb, mv, _, _, by omega, by go_num, rfl, rfl, rfl, HS6.out⟩
        case measure => simp [intOf]; omega
      by_cases hk1 : kd = 1
      · subst hk1
        clear hk0 hzz
        have hgg : (getW bs bk wd != getW bs bk wd) = false := by simp
        have hee : (err (inn n bk wd) != err (inn n bk wd)) = false := by simp
        go_wp2_with (first
          | (go_at_call 11; ((with_reducible refine (pword HSA.out bk wd).mono ?_); rintro e w5 ⟨rfl, hs5, hg5⟩; have HS5 := Lib.hid hs5; obtain ⟨p1, p2, p3⟩ := trip_next HTR.out hg5 (by simp); clear hs5 hg5))
          | (go_at_call 22; ((with_reducible refine (rword HS5.out bk wd).mono ?_); rintro e w' ⟨rfl, rfl⟩)))
        go_roundw
        case rel => exact ⟨j + 1, mb, mv, bs, _, by omega, by go_num, rfl, rfl, rfl, HS5.out⟩
        case measure => simp [intOf]; omega
      by_cases hk2 : kd = 2
      · subst hk2
        clear hk0 hk1 hzz
        have HSD := Lib.hid HSA.out.drew
        have hee : (err (inb n bk) != err (inb n bk)) = false := by simp
        go_wp2_with fail
        go_region_held (fun w' => w'.cell? ⟨wr.heap.size, 1, none⟩ = some (.int .i64 bk) ∧ w'.cell? ⟨wr.heap.size, 2, none⟩ = some (.int .i64 wd) ∧ w'.cell? ⟨wr.heap.size, 3, none⟩ = some (.int .u32 x)) (first | exact HTR.out | exact trip_next (by assumption) (by assumption) HP0.out | exact trip_next (by assumption) (by assumption) HPM.out | exact trip_next (by assumption) (by assumption) HPR.out)
          (first
            | (go_at_call 13; ((with_reducible refine (all_any x _).mono ?_); rintro e w7 ⟨rfl, hg7⟩; have HS7 := Lib.hid (HS6.out.kept hg7)))
            | (go_at_call 13; ((with_reducible refine (all_any x _).mono ?_); rintro e w5 ⟨rfl, hg5⟩; have HS5 := Lib.hid (HSD.out.kept hg5)))
            | (go_at_call 17; ((with_reducible refine (psetb HS5.out bk (allX x) (allX_len x)).mono ?_); rintro e w6 ⟨rfl, hs6, hg6⟩; have HS6 := Lib.hid hs6; clear hs6))
            | (go_at_call 23; ((with_reducible refine (rsetb HS7.out bk (allX x) (allX_len x)).mono ?_); rintro e w8 ⟨rfl, hs8, hg8⟩; have HS8 := Lib.hid hs8; clear hs8)))
        go_wp2_with fail
        go_roundw
        case rel => exact ⟨j + 1, mb, mv, _, _, by omega, by go_num, rfl, rfl, rfl, HS8.out⟩
        case measure => simp [intOf]; omega
      by_cases hk3 : kd = 3
      · subst hk3
        clear hk0 hk1 hk2 hzz
        have hx16 := getB_length HSA.out.m bk
        have hq : ∀ w, (binOp .neq 30 (.agg (row (getB bs bk))) (.agg (row (getB bs bk)))).run Try.prog w = .ok (.bool false) w := fun w => by rw [q30 w _ _ hx16 hx16]; simp
        have hee : (err (inb n bk) != err (inb n bk)) = false := by simp
        have HX := Lib.hid hx16
        clear hx16
        go_wp2_with (first
          | (go_at_call 14; ((with_reducible refine (pblock HSA.out bk).mono ?_); rintro e w5 ⟨rfl, hs5, hg5⟩; have HG5 := Lib.hid (grown_alloc hg5 (.cells (row (getB bs bk)) 30)); have HS5 := Lib.hid (hs5.kept (grown_alloc (grown_refl _ _) (.cells (row (getB bs bk)) 30))); have HK5 := Lib.hid (heap_alloc_new w5 (.cells (row (getB bs bk)) 30)); clear hs5 hg5))
          | ((with_reducible refine store_new' (getB bs bk) 15 123 ?_ ?_ HX.out ?_); (rfl); (rfl); have p1 := (trip_next HTR.out HG5.out (by simp)).1)
          | (go_at_call 24; ((with_reducible refine (rblock HS5.out bk).mono ?_); rintro e w6 ⟨rfl, hs6, hg6⟩; have hk6 := (hg6.block w5.heap.size (by simp) (by simp)).trans HK5.out; have HK6 := Lib.hid ((Below.heap_alloc w6 (.cells (row (getB bs bk)) 30) _ (block_lt hk6)).trans hk6); have HS6 := Lib.hid (hs6.kept (grown_alloc (grown_refl _ _) (.cells (row (getB bs bk)) 30))); clear hs6 hg6 hk6))
          | ((with_reducible refine store_new' (getB bs bk) 17 130 ?_ ?_ HX.out ?_); (rfl); (rfl))
          | ((with_reducible refine load_any (getB bs bk) 15 w5.heap.size ?_ ?_ HX.out ?_); (rfl); (exact HK6.out))
          | ((with_reducible refine load_any (getB bs bk) 17 w6.heap.size ?_ ?_ HX.out ?_); (rfl); (exact heap_alloc_new _ _)))
        go_roundw
        case rel => exact ⟨j + 1, mb, mv, bs, _, by omega, by go_num, rfl, rfl, rfl, HS6.out⟩
        case measure => simp [intOf]; omega
      by_cases hk4 : kd = 4
      · subst hk4
        clear hk0 hk1 hk2 hk3
        go_wp2_with (first
          | (go_at_call 19; ((with_reducible refine (copy_any mb mv bs _ HSA.out.m (by rw [HSA.out.lenm]; exact hn2)).mono ?_); rintro e w5 ⟨nb, nv, rfl, hn5, hg5, _, hnv⟩; have HS5 := Lib.hid (HSA.out.kept hg5); have HN5 := Lib.hid hn5; have HNV := Lib.hid hnv; clear hn5 hg5 hnv))
          | (go_at_call 16; ((with_reducible refine (pset HS5.out 0 0 99).mono ?_); rintro e w6 ⟨rfl, hs6, hg6⟩; have HS6 := Lib.hid hs6; have HN6 := Lib.hid (HN5.out.beside HS5.out.m hg6 (fun k hk e => (by obtain ⟨c, hc⟩ := HSA.out.m.bl k hk; have h3 := HNV.out k e.symm; have h4 := block_lt hc; omega))); clear hs6 hg6)))
        go_roundw
        case rel => exact ⟨j + 1, nb, nv, bs, z, by omega, by go_num, rfl, rfl, rfl, ⟨HN6.out, HS6.out.r, HSA.out.lenm, HSA.out.lenr, HS6.out.g, fun k hk => Nat.le_trans HSA.out.g.size (HNV.out k hk), HSA.out.hr⟩⟩
        case measure => simp [intOf]; omega
      · have k0 : (kd == 0) = false := by simpa using hk0
        have k1 : (kd == 1) = false := by simpa using hk1
        have k2 : (kd == 2) = false := by simpa using hk2
        have k3 : (kd == 3) = false := by simpa using hk3
        have k4 : (kd == 4) = false := by simpa using hk4
        clear hk0 hk1 hk2 hk3 hk4
        go_wp2_with fail
        go_roundw
        case rel => exact ⟨j + 1, mb, mv, bs, z, by omega, by go_num, rfl, rfl, rfl, HSA.out⟩
        case measure => simp [intOf]; omega
    · obtain rfl : j = len := by omega
      clear hlt hj
      have HST2 := Lib.hid HS.out
      go_wp2_with fail
      go_loopw [149] (fun i wr => ∃ k : Nat, k ≤ n ∧ i = .int .i64 (k : Int) ∧ PSt w wr n mb rb mv rv bs bs) (fun i _ => n - (intOf i).toNat)
      case atStart => exact ⟨0, Nat.zero_le _, rfl, HST2.out⟩
      case round =>
        obtain ⟨k, hk, rfl, hst⟩ := hrel
        have HSA := Lib.hid hst
        clear hst
        by_cases hlt : k < n
        · have hx16 := getB_length HSA.out.m (k : Int)
          have hq : ∀ w, (binOp .neq 30 (.agg (row (getB bs k))) (.agg (row (getB bs k)))).run Try.prog w = .ok (.bool false) w := fun w => by rw [q30 w _ _ hx16 hx16]; simp
          have he : err (inb n (k : Int)) = 0 := by rw [show inb n (k : Int) = true by simp [inb, hlt]]; rfl
          have HPB := Lib.hid (pblock HSA.out (k : Int))
          rw [he] at HPB
          have HX := Lib.hid hx16
          have HE := Lib.hid he
          clear hx16 he
          go_wp2_with (first
            | (go_at_call 14; ((with_reducible refine HPB.out.mono ?_); rintro e w5 ⟨rfl, hs5, hg5⟩; have HS5 := Lib.hid (hs5.kept (grown_alloc (grown_refl _ _) (.cells (row (getB bs k)) 30))); have HK5 := Lib.hid (heap_alloc_new w5 (.cells (row (getB bs k)) 30)); clear hs5 hg5))
            | ((with_reducible refine store_new' (getB bs k) 21 156 ?_ ?_ HX.out ?_); (rfl); (rfl))
            | (go_at_call 24; ((with_reducible refine (rblock HS5.out (k : Int)).mono ?_); rintro e w6 ⟨rfl, hs6, hg6⟩; have hk6 := (hg6.block w5.heap.size (by simp) (by simp)).trans HK5.out; have HK6 := Lib.hid ((Below.heap_alloc w6 (.cells (row (getB bs k)) 30) _ (block_lt hk6)).trans hk6); have HS6 := Lib.hid (hs6.kept (grown_alloc (grown_refl _ _) (.cells (row (getB bs k)) 30))); clear hs6 hg6 hk6))
            | ((with_reducible refine store_new' (getB bs k) 23 162 ?_ ?_ HX.out ?_); (rfl); (rfl))
            | ((with_reducible refine load_any (getB bs k) 21 w5.heap.size ?_ ?_ HX.out ?_); (rfl); (exact HK6.out))
            | ((with_reducible refine load_any (getB bs k) 23 w6.heap.size ?_ ?_ HX.out ?_); (rfl); (exact heap_alloc_new _ _)))
          go_roundw
          case rel => exact ⟨k + 1, by omega, by go_num, HS6.out⟩
          case measure => simp [intOf]; omega
        · obtain rfl : k = n := by omega
          clear hlt hk
          go_wp2_with (go_at_call 15; ((refine (works_any _).mono ?_); rintro e w17 ⟨rfl, hg17⟩))
          go_ret
          exact ⟨rfl, grown_trans HSA.out.g hg17⟩

theorem plays_true (blocks : Int) (os : List OpX) (ad : Option Addr) (len cap : Nat) (w : World) (hlen : len = os.length) (hat : OpsAt w ad os) :
    Calls Try.prog 4 #[.int .i64 blocks, .slice ad len cap] w fun e w' => e = .returned (.bool true) ∧ w.grownBy w' none := by
  by_cases h : 400 < len ∨ blocks < 1 ∨ 256 < blocks
  · exact plays_err blocks ad len cap w h
  · obtain ⟨n, rfl⟩ : ∃ n : Nat, blocks = (n : Int) := ⟨blocks.toNat, by omega⟩
    exact plays_ok os n ad len cap w hlen hat (by omega) (by omega) (by omega)
end Go.Proofs.Ytcbkfgcjjhifdaa.pp
