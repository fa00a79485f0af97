/-
  The law PoolPlays returns true: rooms that may not be, and scripts that are too long, too. No condition beyond that the script has its calls.
-/
import Derived.Test.YtkamafkajfajpaaC16
namespace Go.Proofs.Ytkamafkajfajpaa.pp
open Go Go.RowKit Go.Shelf
set_option linter.unusedVariables false
attribute [local go_sem] Oper.semAt_some

set_option maxRecDepth 1000000 in
set_option maxHeartbeats 4000000 in
theorem plays_true (room : Int) (os : List (Int × Int × Int)) (ao : Option Addr) (lenO capO : Nat) (w : World) (hlo : lenO = os.length) (hao : OpsAt w ao os) :
    Calls Try.prog 4 #[.int .i64 room, .slice ao lenO capO] w fun e w' => e = .returned (.bool true) ∧ Below w.heap.size w w' := by
  by_cases h3 : lenO ≤ 300
  · by_cases hr : room < 1 ∨ 65536 < room
    · refine (callsIn_wide (n := 5)).1 ?_
      have HN := Lib.hid (fun w => new_err room w hr)
      have HRN := Lib.hid (fun w => rnew_err room w hr)
      clear hlo hao hr
      refine callsIn_of_wp_marks Try.func4 rfl trivial ?_ rfl
      simp only [Try.ntmps4, List.size_toArray, List.length_cons, List.length_nil, Nat.reduceAdd, Nat.reduceSub, Array.replicate_succ, Array.replicate_zero, List.push_toArray, List.append_toArray, List.nil_append, List.cons_append]
      gi_wp2_with (first
        | (refine ⟨trivial, ?_⟩; gi_at_call 12; refine (callsIn_wide.2 (ps.works_any (w.alloc _))).mono ?_; rintro e w1 ⟨rfl, hb1⟩; obtain ⟨hv, hs1, hw1⟩ := one_box hb1; clear hb1)
        | (refine ⟨trivial, ?_⟩; gi_at_call 11; refine (callsIn_wide.2 (HN.out _)).mono ?_; rintro e w' ⟨rfl, rfl⟩)
        | (refine ⟨trivial, ?_⟩; gi_at_call 18; refine (callsIn_wide.2 (HRN.out _)).mono ?_; rintro e w' ⟨rfl, rfl⟩)
        | (refine ⟨trivial, ?_⟩; gi_at_call 12; refine (callsIn_wide.2 (ps.works_any (World.alloc _ _))).mono ?_; rintro e w2 ⟨rfl, hb2⟩; rw [World.size_alloc] at hb2; have hw2 := hw1.trans (((Below.refl _ _).alloc (by omega) _).trans (hb2.mono (by omega))); have hr5 := (Go.Boxed.alloc hv _).below hb2 (by omega); have hrc5 := Go.Boxed.cell hr5; have hrf5 := Go.Boxed.frozen hr5))
      exact ends_true0 rfl hr5 rfl (by omega) hw2
    · obtain ⟨r, rfl⟩ : ∃ r : Nat, room = (r : Int) := ⟨room.toNat, by omega⟩
      exact plays_some r os ao lenO capO w hlo hao h3 (by omega) (by omega)
  · refine (callsIn_wide (n := 5)).1 ?_
    clear hlo hao
    refine callsIn_of_wp_marks Try.func4 rfl trivial ?_ rfl
    simp only [Try.ntmps4, List.size_toArray, List.length_cons, List.length_nil, Nat.reduceAdd, Nat.reduceSub, Array.replicate_succ, Array.replicate_zero, List.push_toArray, List.append_toArray, List.nil_append, List.cons_append]
    gi_wp2_with (first
      | (refine ⟨trivial, ?_⟩; gi_at_call 12; refine (callsIn_wide.2 (ps.works_any (w.alloc _))).mono ?_; rintro e w1 ⟨rfl, hb1⟩; obtain ⟨hv, hs1, hw1⟩ := one_box hb1; clear hb1)
      | (refine ⟨trivial, ?_⟩; gi_at_call 12; refine (callsIn_wide.2 (ps.works_any _)).mono ?_; rintro e w2 ⟨rfl, hb2⟩; have hr5 := hv.below hb2 (by omega); have hrc5 := Go.Boxed.cell hr5; have hrf5 := Go.Boxed.frozen hr5))
    exact ends_true0 rfl hr5 rfl (by omega) (hw1.trans (hb2.mono (by omega)))
end Go.Proofs.Ytkamafkajfajpaa.pp
