/-
  What a pool of ints is behind Put and Take, and what these answer: contracts. No condition but the bounds that each theorem names.
-/
import Derived.Test.YtkamafkajfajpaaC1
import Derived.Maps.AppendAt
namespace Go.Proofs.Ytkamafkajfajpaa.pp
open Go Go.RowKit
set_option linter.unusedVariables false

theorem Try.info3 : (Try.prog.info? 3).map (fun i => (i.zero, i.size, i.bytes)) = some (some (.int .i64 0), 1, 8) := by kernel_rfl

theorem put_nil (x : Int) (w : World) : Calls Try.prog 13 #[.pointer none, .int .i64 x] w fun e w' => e = .returned (.int .i64 1) ∧ w = w' := by
  go_enter Try.func13, Try.ntmps13
  go_wp2
  go_ret
  exact ⟨rfl, rfl⟩

theorem put_full (b : Nat) (v : Value) (room : Nat) (xs : List Int) (x : Int) (w : World) (hP : IPool w b v room xs) (hl : xs.length = room) (hr : room ≤ 65536) :
    Calls Try.prog 13 #[.pointer (some ⟨b, 0, none⟩), .int .i64 x] w fun e w' => e = .returned (.int .i64 7) ∧ ∃ n, w' = w.drewN n := by
  have HR := Lib.hid (room_any b v room xs w hP (by omega) hr)
  have h0 : (room : Int) - (xs.length : Int) = 0 := by omega
  rw [h0] at HR
  clear hP hl h0
  go_enter Try.func13, Try.ntmps13
  go_wp2_with (go_at_call 15; ((with_reducible refine HR.out.mono ?_); rintro e w1 ⟨rfl, n, rfl⟩))
  go_ret
  exact ⟨rfl, n, rfl⟩

set_option maxHeartbeats 1000000 in
theorem put_ok (b : Nat) (v : Value) (room : Nat) (xs : List Int) (x : Int) (w : World) (hP : IPool w b v room xs) (hl : xs.length < room) (hr : room ≤ 65536) :
    Calls Try.prog 13 #[.pointer (some ⟨b, 0, none⟩), .int .i64 x] w fun e w' => e = .returned (.int .i64 0) ∧ ∃ v', IPool w' b v' room (xs ++ [x]) ∧ Turn w w' b v v' := by
  obtain ⟨i0, hi, hz0, hz1, hz2⟩ := info_parts Try.info3
  have HR := Lib.hid (room_any b v room xs w hP (by omega) hr)
  have h0 : ((room : Int) - (xs.length : Int) == 0) = false := by simp; omega
  have HP := Lib.hid hP
  have hc := hP.cell0
  have hlen : (xs.map I).length + 1 ≤ 65536 := by simp; omega
  have HQ := Lib.hid hlen
  obtain ⟨q, hq⟩ : ∃ q, q = (room : Int) - (xs.length : Int) := ⟨_, rfl⟩
  rw [← hq] at HR h0
  clear hP hl hr hq
  go_enter Try.func13, Try.ntmps13
  go_wp2_with (first
    | (go_at_call 15; ((with_reducible refine HR.out.mono ?_); rintro e w1 ⟨rfl, n, hw1⟩; have HP1 : Hid (IPool w1 b v room xs) := Lib.hid (by rw [hw1]; exact HP.out.drewN n); have hc1 := HP1.out.cell0; have HW := Lib.hid hw1; clear hw1))
    | (at_builtin; refine wpList_append_sl rfl _ _ 39 39 rfl 3 i0 (.int .i64 0) 8 Try.underlying39 hi hz0 hz1 hz2 rfl v (xs.map I) rfl (HP1.out.sl.of_block (fun g hg => Below.heap_alloc _ _ _ (HP1.out.sl.lt g hg))) 1 [I x] (src_one _ _ _ Try.underlying39 rfl) (by have := HQ.out; unfold maxLen; omega) (by have := HQ.out; omega) ?_; intro v' w2 hsl hgr hnx; obtain ⟨⟨hc2, hf2⟩, hP2, hT2⟩ := HP1.out.put (World.grownBy_alloc _ _ none) hsl hgr hnx; obtain ⟨ad', n', cap', rfl⟩ := hsl.form2; obtain ⟨ad0, cap0, rfl⟩ := HP1.out.sl.form))
  go_ret
  rw [HW.out] at hT2
  refine ⟨rfl, _, ?_, hT2.drewN⟩
  show Pool _ 63 3 b _ room ((xs ++ [x]).map I)
  rw [show (xs ++ [x]).map I = xs.map I ++ [I x] by simp]; exact hP2

theorem I_one (xs : List Int) : ∀ u ∈ xs.map I, u.oneCell' = true := fun u hu => by
  obtain ⟨n, _, rfl⟩ := List.mem_map.1 hu
  rfl

set_option maxHeartbeats 1000000 in
theorem cut_first (b : Nat) (v : Value) (room : Nat) (xs : List Int) (w : World) (hP : IPool w b v room xs) (hl : 0 < xs.length) (hr : xs.length ≤ 65536) :
    Calls Try.prog 27 #[.pointer (some ⟨b, 0, none⟩), .int .i64 0] w fun e w' => (∃ u, e = .returned u) ∧ ∃ v', IPool w' b v' room (xs.eraseIdx 0) ∧ Turn w w' b v v' := by
  have hsl := hP.sl
  have hf := hP.frozen 0
  have hc := hP.cell0
  rcases hsl with ⟨_, h⟩ | ⟨g, off, cap, cur, rfl, hb, h2, h3, h4, h5⟩
  · rw [List.map_eq_nil_iff] at h; subst h; simp at hl
  have hsl := hP.sl
  obtain ⟨A, hA, _, hslA, hAg⟩ := tail_src (P := Try.prog) hsl 1 (by simp; omega) Try.underlying39 (I_one xs)
  have HSA := Lib.hid hslA
  have HP := Lib.hid hP
  have hcap : xs.length ≤ cap := by simpa using h2
  have hcl : cap ≤ 9223372036854775807 := by unfold maxLen at h3; omega
  rw [List.length_map] at hc HSA hsl
  have HAG := Lib.hid hAg
  have HSL := Lib.hid hsl
  clear hsl hP hslA hAg hb h2 h3 h4 h5
  go_enter Try.func27, Try.ntmps27
  go_wp2_with fail
  refine bodyPost_ret (results_none rfl _ _ _) rfl ?_
  obtain ⟨_, hP2, hT2⟩ := HP.out.put (wa := w) (w2 := w) ⟨rfl, rfl, rfl, Nat.le_refl _, fun _ _ _ => rfl⟩ HSA.out ⟨rfl, rfl, rfl, Nat.le_refl _, fun _ _ _ => rfl⟩ (.inl (by simp [Value.ownBlock, HAG.out]))
  rw [show (xs.map I).drop 1 = (xs.eraseIdx 0).map I by cases xs <;> simp] at hP2
  exact ⟨⟨_, rfl⟩, _, hP2, hT2⟩

theorem erase_map (xs : List Int) (k : Nat) : (xs.map I).take k ++ (xs.map I).drop (k + 1) = (xs.eraseIdx k).map I := by
  rw [List.eraseIdx_eq_take_drop_succ, List.map_append, List.map_take, List.map_drop]

set_option maxHeartbeats 2000000 in
theorem cut_mid (b : Nat) (v : Value) (room : Nat) (xs : List Int) (k : Nat) (w : World) (hP : IPool w b v room xs) (hk0 : 0 < k) (hl : k < xs.length) (hr : xs.length ≤ 65536) :
    Calls Try.prog 27 #[.pointer (some ⟨b, 0, none⟩), .int .i64 (k : Int)] w fun e w' => (∃ u, e = .returned u) ∧ ∃ v', IPool w' b v' room (xs.eraseIdx k) ∧ Turn w w' b v v' := by
  obtain ⟨i0, hi, hz0, hz1, hz2⟩ := info_parts Try.info3
  have hsl := hP.sl
  have hf := hP.frozen 0
  have hc := hP.cell0
  rcases hsl with ⟨_, h⟩ | ⟨g, off, cap, cur, rfl, hb, h2, h3, h4, h5⟩
  · rw [List.map_eq_nil_iff] at h; subst h; simp at hl
  have hsl : Sl w.drew 3 _ _ := hP.sl.of_block (fun _ _ => rfl)
  obtain ⟨A, hA, hsrc, _, hAg⟩ := tail_src (P := Try.prog) hsl (k + 1) (by simp; omega) Try.underlying39 (I_one xs)
  have hhd := head_sl hsl k (by simp; omega)
  have hcap : xs.length ≤ cap := by simpa using h2
  have hcl : cap ≤ 9223372036854775807 := by unfold maxLen at h3; omega
  have hkc : k ≤ cap := by omega
  have hkc1 : k + 1 ≤ cap := by omega
  have hkl1 : k + 1 ≤ xs.length := by omega
  rw [List.length_map] at hc hsrc
  have HP := Lib.hid hP
  have HS := Lib.hid hsrc
  have HH := Lib.hid hhd
  have HE := Lib.hid (erase_map xs k)
  have HK : Hid (((xs.map I).take k).length + (xs.length - (k + 1)) ≤ 65536) := Lib.hid (by simp; omega)
  have hw : IntKind.i64.wrap ((k : Int) + 1) = ((k : Int) + 1) := by simp [IntKind.wrap, IntKind.bits, IntKind.signed]; omega
  have ht : ((k : Int) + 1).toNat = k + 1 := by omega
  have hk1 : 0 ≤ (k : Int) + 1 := by omega
  have hk2 : (k : Int) + 1 ≤ (xs.length : Int) := by omega
  clear hsl hP hsrc hhd hb h2 h3 h4 h5 hAg
  go_enter Try.func27, Try.ntmps27
  go_wp2_with fail
  go_region_law (refine step_append_sl rfl (.tmp 21) (.tmp 28) 39 39 rfl 3 i0 (.int .i64 0) 8 Try.underlying39 hi hz0 hz1 hz2 rfl (.slice (some ⟨g, off, none⟩) k k) ((xs.map I).take k) (by simp [Act.eval, Act.put]) HH.out _ _ HS.out (by have := HK.out; unfold maxLen; omega) (by have := HK.out; omega) ?_; intro v' w2 hsl hgr hnx; obtain ⟨⟨hc2, hf2⟩, hP2, hT2⟩ := (HP.out.drewN 1).put (wa := w.drewN 1) ⟨rfl, rfl, rfl, Nat.le_refl _, fun _ _ _ => rfl⟩ hsl hgr hnx; obtain ⟨ad', n', cap', rfl⟩ := hsl.form2)
  all_goals
    go_end0
    rw [HE.out] at hP2
    exact ⟨⟨_, rfl⟩, _, hP2, hT2.drewN⟩

theorem take_nil (i : Int) (w : World) : Calls Try.prog 9 #[.pointer none, .int .i64 i] w fun e w' => e = .returned (.tuple #[.int .i64 0, .int .i64 1]) ∧ w = w' := by
  have HA := Lib.hid (at_nil i w)
  go_enter Try.func9, Try.ntmps9
  go_wp2_with (go_at_call 10; ((with_reducible refine HA.out.mono ?_); rintro e w' ⟨rfl, rfl⟩))
  go_ret2
  exact ⟨rfl, rfl⟩
theorem take_out (b : Nat) (v : Value) (room : Nat) (xs : List Int) (i : Int) (w : World) (hP : IPool w b v room xs) (h : i < 0 ∨ (xs.length : Int) ≤ i) : Calls Try.prog 9 #[.pointer (some ⟨b, 0, none⟩), .int .i64 i] w fun e w' => e = .returned (.tuple #[.int .i64 0, .int .i64 5]) ∧ w = w' := by
  have HA := Lib.hid (at_out b v room xs i w hP h)
  clear hP h
  go_enter Try.func9, Try.ntmps9
  go_wp2_with (go_at_call 10; ((with_reducible refine HA.out.mono ?_); rintro e w' ⟨rfl, rfl⟩))
  go_ret2
  exact ⟨rfl, rfl⟩
theorem cut_any (b : Nat) (v : Value) (room : Nat) (xs : List Int) (k : Nat) (w : World) (hP : IPool w b v room xs) (hl : k < xs.length) (hr : xs.length ≤ 65536) :
    Calls Try.prog 27 #[.pointer (some ⟨b, 0, none⟩), .int .i64 (k : Int)] w fun e w' => (∃ u, e = .returned u) ∧ ∃ v', IPool w' b v' room (xs.eraseIdx k) ∧ Turn w w' b v v' := by
  by_cases h0 : k = 0
  · subst h0; exact cut_first b v room xs w hP hl hr
  · exact cut_mid b v room xs k w hP (by omega) hl hr
theorem take_in (b : Nat) (v : Value) (room : Nat) (xs : List Int) (k : Nat) (x : Int) (w : World) (hP : IPool w b v room xs) (hx : xs[k]? = some x) (hr : xs.length ≤ 65536) :
    Calls Try.prog 9 #[.pointer (some ⟨b, 0, none⟩), .int .i64 (k : Int)] w fun e w' => e = .returned (.tuple #[.int .i64 x, .int .i64 0]) ∧ ∃ v', IPool w' b v' room (xs.eraseIdx k) ∧ Turn w w' b v v' := by
  have HA := Lib.hid (at_in b v room xs k x w hP hx)
  have HC := Lib.hid (cut_any b v room xs k w hP (List.getElem?_eq_some_iff.1 hx).1 hr)
  clear hP hx hr
  go_enter Try.func9, Try.ntmps9
  go_wp2_with (first
    | (go_at_call 10; ((with_reducible refine HA.out.mono ?_); rintro e w' ⟨rfl, rfl⟩))
    | (go_at_call 27; ((with_reducible refine HC.out.mono ?_); rintro e w2 ⟨⟨u, rfl⟩, v', hP2, hT2⟩)))
  go_ret2
  exact ⟨rfl, v', hP2, hT2⟩
end Go.Proofs.Ytkamafkajfajpaa.pp
