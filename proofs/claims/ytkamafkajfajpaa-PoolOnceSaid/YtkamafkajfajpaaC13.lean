/-
  The law PoolOnce returns true: lists that are too long, too. No condition beyond that the lists have their values.
-/
import Derived.Test.YtkamafkajfajpaaC12
namespace Go.Proofs.Ytkamafkajfajpaa.pp
open Go Go.RowKit Go.Shelf
set_option linter.unusedVariables false
attribute [local go_sem] Oper.semAt_some

set_option maxRecDepth 1000000 in
set_option maxHeartbeats 4000000 in
theorem once_true (ps0 : List Int) (ad ao : Option Addr) (len cap lenO capO : Nat) (w : World) (hlo : lenO = ps0.length) (hao : At w ao (ps0.map I)) :
    Calls Try.prog 6 #[.slice ad len cap, .slice ao lenO capO] w fun e w' => e = .returned (.bool true) ∧ Below w.heap.size w w' := by
  by_cases h : len ≤ 300 ∧ lenO ≤ 300
  · exact once_some ps0 ad ao len cap lenO capO w hlo hao h.1 h.2
  · refine (callsIn_wide (n := 5)).1 ?_
    clear hlo hao
    by_cases h3 : len ≤ 300
    · have h4 : ¬ lenO ≤ 300 := by omega
      clear h
      refine callsIn_of_wp_marks Try.func6 rfl trivial ?_ rfl
      simp only [Try.ntmps6, List.size_toArray, List.length_cons, List.length_nil, Nat.reduceAdd, Nat.reduceSub, Array.replicate_succ, Array.replicate_zero, List.push_toArray, List.append_toArray, List.nil_append, List.cons_append]
      gi_wp2_with (first
        | (refine ⟨trivial, ?_⟩; gi_at_call 12; refine (callsIn_wide.2 (ps.works_any (w.alloc _))).mono ?_; rintro e w1 ⟨rfl, hb1⟩; obtain ⟨hv, hs1, hw1⟩ := one_box hb1; clear hb1)
        | (refine ⟨trivial, ?_⟩; gi_at_call 12; refine (callsIn_wide.2 (ps.works_any _)).mono ?_; rintro e w2 ⟨rfl, hb2⟩; have hr5 := hv.below hb2 (by omega); have hrc5 := Go.Boxed.cell hr5; have hrf5 := Go.Boxed.frozen hr5))
      exact ends_true0 rfl hr5 rfl (by omega) (hw1.trans (hb2.mono (by omega)))
    · clear h
      refine callsIn_of_wp_marks Try.func6 rfl trivial ?_ rfl
      simp only [Try.ntmps6, List.size_toArray, List.length_cons, List.length_nil, Nat.reduceAdd, Nat.reduceSub, Array.replicate_succ, Array.replicate_zero, List.push_toArray, List.append_toArray, List.nil_append, List.cons_append]
      gi_wp2_with (first
        | (refine ⟨trivial, ?_⟩; gi_at_call 12; refine (callsIn_wide.2 (ps.works_any (w.alloc _))).mono ?_; rintro e w1 ⟨rfl, hb1⟩; obtain ⟨hv, hs1, hw1⟩ := one_box hb1; clear hb1)
        | (refine ⟨trivial, ?_⟩; gi_at_call 12; refine (callsIn_wide.2 (ps.works_any _)).mono ?_; rintro e w2 ⟨rfl, hb2⟩; have hr5 := hv.below hb2 (by omega); have hrc5 := Go.Boxed.cell hr5; have hrf5 := Go.Boxed.frozen hr5))
      exact ends_true0 rfl hr5 rfl (by omega) (hw1.trans (hb2.mono (by omega)))
end Go.Proofs.Ytkamafkajfajpaa.pp
