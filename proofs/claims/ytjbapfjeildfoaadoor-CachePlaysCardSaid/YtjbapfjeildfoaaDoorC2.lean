/-
  What slices.IndexFunc, first, free answer: contracts. No condition but the bounds that each theorem names.
-/
import Derived.Test.YtjbapfjeildfoaaDoorC1
import Derived.Shelf.Abstract
namespace Go.Proofs.YtjbapfjeildfoaaDoor.kk
open Go Go.ChangeShapes Go.WideShapes Go.ChangeAt Go.RowKit Go.Shelf
set_option linter.unusedVariables false

set_option maxHeartbeats 1000000 in
theorem index_any (p : Ln → Bool) (g : Nat) (lb : Array Value) (eg : ∀ args w, (callFunc g args).run Tryd.prog w = .ok (.enter g args) w) (b cap : Nat) (ls : List Ln) (w : World) (hR : RowAt w b ls) (hl : ls.length ≤ 4)
    (hp : ∀ (W : World) (l : Ln), w.grownBy W none → Calls Tryd.prog g (#[.agg (la l)] ++ lb) W fun e W' => e = .returned (.bool (p l)) ∧ W.grownBy W' none) :
    Calls Tryd.prog 61 #[.slice (some ⟨b, 0, none⟩) ls.length cap, .func (.func g) #[] lb] w fun e w' => e = .returned (.int .i64 (ix p ls)) ∧ w.grownBy w' none := by
  obtain ⟨n, hn⟩ : ∃ n, n = ls.length := ⟨_, rfl⟩
  have HN := Lib.hid hn
  have HP := Lib.hid hp
  have HR := Lib.hid hR
  rw [← hn] at hl ⊢
  clear hn hp hR
  go_enter Tryd.func61, Tryd.ntmps61
  go_wp2
  go_loopw [5, 8] (fun _ i wr => ∃ k : Nat, k ≤ n ∧ i = .int .i64 (k : Int) ∧ w.grownBy wr none ∧ ∀ (j : Nat) x, j < k → ls[j]? = some x → p x = false) (fun _ i _ => n - (intOf i).toNat)
  case atStart => exact ⟨0, Nat.zero_le _, rfl, grown_refl _ _, fun j x hj => by omega⟩
  case round =>
    obtain ⟨k, hk, rfl, hg, hno⟩ := hrel
    have HG := Lib.hid hg
    have HNO := Lib.hid hno
    by_cases hlt : k < n
    · obtain ⟨l, hll⟩ : ∃ l, ls[k]? = some l := ⟨_, List.getElem?_eq_getElem (by have := HN.out; omega)⟩
      have HLL := Lib.hid hll
      have HA := Lib.hid ((HR.out.grown HG.out (by simp)).at_ k l hll)
      have hcall := HP.out wr l hg
      clear hll hg hno
      cases hq : p l
      · rw [hq] at hcall
        have HC := Lib.hid hcall
        have HQ := Lib.hid hq
        clear hcall hq
        go_wp2_with (first
          | ((with_reducible refine load_ln l 14 b (k * 18) ?_ HA.out ?_); (go_num))
          | (go_at_fn g; refine HC.out.mono ?_; rintro e w' ⟨rfl, hb'⟩; have HB := Lib.hid hb'; clear hb'))
        go_roundw
        case rel =>
          refine ⟨k + 1, by omega, by go_num, grown_trans HG.out HB.out, fun j x hj hx => ?_⟩
          by_cases hjk : j = k
          · subst hjk
            rw [HLL.out] at hx; cases hx; exact HQ.out
          · exact HNO.out j x (by omega) hx
        case measure => simp [intOf]; omega
      · rw [hq] at hcall
        have HC := Lib.hid hcall
        have HQ := Lib.hid hq
        clear hcall hq
        go_wp2_with (first
          | ((with_reducible refine load_ln l 14 b (k * 18) ?_ HA.out ?_); (go_num))
          | (go_at_fn g; refine HC.out.mono ?_; rintro e w' ⟨rfl, hb'⟩; have HB := Lib.hid hb'; clear hb'))
        go_ret
        exact ⟨by rw [ix_hit p ls k l HLL.out HQ.out HNO.out]; rfl, grown_trans HG.out HB.out⟩
    · obtain rfl : k = n := by omega
      clear hlt hk hg hno
      go_wp2
      go_ret
      exact ⟨by rw [ix_miss p ls (fun j x hx => HNO.out j x (by have := (List.getElem?_eq_some_iff.1 hx).1; have := HN.out; omega) hx)]; rfl, HG.out⟩

theorem enters50 : ∀ args w, (callFunc 50 args).run Tryd.prog w = .ok (.enter 50 args) w := enters_of Tryd.func50 (by kernel_rfl) rfl
theorem enters51 : ∀ args w, (callFunc 51 args).run Tryd.prog w = .ok (.enter 51 args) w := enters_of Tryd.func51 (by kernel_rfl) rfl

/-- first, of a set that lies at an offset in the sets' block. -/
theorem first_any (p : Ln → Bool) (g : Nat) (lb : Array Value) (eg : ∀ args w, (callFunc g args).run Tryd.prog w = .ok (.enter g args) w) (gs o b cap n : Nat) (ls : List Ln) (w : World) (hn : n = ls.length) (hS : w.cell? ⟨gs, o, none⟩ = some (.slice (some ⟨b, 0, none⟩) n cap)) (hR : RowAt w b ls) (hl : ls.length ≤ 4)
    (hp : ∀ (W : World) (l : Ln), w.grownBy W none → Calls Tryd.prog g (#[.agg (la l)] ++ lb) W fun e W' => e = .returned (.bool (p l)) ∧ W.grownBy W' none) :
    Calls Tryd.prog 49 #[.pointer (some ⟨gs, o, none⟩), .func (.func g) #[] lb] w fun e w' => e = .returned (.int .i64 (ix p ls)) ∧ w.grownBy w' none := by
  subst hn
  have HI := Lib.hid (index_any p g lb eg b cap ls w hR hl hp)
  generalize ls.length = n at *
  clear hp hR hl eg
  go_enter Tryd.func49, Tryd.ntmps49
  go_wp2_with (go_at_call 61; ((with_reducible refine HI.out.mono ?_); rintro e w1 ⟨rfl, hg1⟩; have HG1 := Lib.hid hg1; clear hg1))
  go_ret
  exact ⟨rfl, HG1.out⟩
theorem free_any (gs o b cap n : Nat) (ls : List Ln) (w : World) (hn : n = ls.length) (hS : w.cell? ⟨gs, o, none⟩ = some (.slice (some ⟨b, 0, none⟩) n cap)) (hR : RowAt w b ls) (hl : ls.length ≤ 4) :
    Calls Tryd.prog 32 #[.pointer (some ⟨gs, o, none⟩)] w fun e w' => e = .returned (.int .i64 (ix isFree ls)) ∧ w.grownBy w' none := by
  have HI := Lib.hid (first_any isFree 51 #[] enters51 gs o b cap n ls w hn hS hR hl (fun W l _ => free1_any l W))
  clear hS hR hl hn
  go_enter Tryd.func32, Tryd.ntmps32
  go_wp2_with (go_at_call 49; ((with_reducible refine HI.out.mono ?_); rintro e w1 ⟨rfl, hg1⟩; have HG1 := Lib.hid hg1; clear hg1))
  go_ret
  exact ⟨rfl, HG1.out⟩
end Go.Proofs.YtjbapfjeildfoaaDoor.kk
