/-
  What the document's own Do answers: a contract; it is what the program answers. No condition but the bounds that each theorem names.
-/
import Derived.Test.YtmfckkioccmblaaDoorStJ
import Derived.Test.YtmfckkioccmblaaDoorStK
import Derived.Test.YtmfckkioccmblaaDoorStL
namespace Go.Proofs.YtmfckkioccmblaaDoor.sg
open Go Go.ChangeShapes Go.WideShapes Go.ChangeAt Go.RowKit Go.Proofs.YtmfckkioccmblaaDoor.cd
set_option linter.unusedVariables false
set_option maxRecDepth 1000000

theorem pt_gt {x : List Int} (h : x.length = 16) (a : Int) : pt x a (gt x a) = x := by
  unfold pt gt
  split
  · rename_i h'
    rw [List.getD_eq_getElem?_getD, List.getElem?_eq_getElem (show a.toNat < x.length by omega)]
    exact List.set_getElem_self _
  · rfl
theorem pt_zero (x : List Int) (v : Int) : pt x 0 v = x := if_neg (by omega)
/-- N of an instruction that may be. -/
theorem may_n {c : Cd} (h : may c = true) : -2097152 ≤ c.n ∧ c.n ≤ 2097151 := by
  obtain ⟨_, _, _, _, hn⟩ := may_parts h
  have hf := fm_lt c.op
  rcases form_cases hf with q | q | q | q | q | q | q <;> rw [q] at hn <;> simp only [us] at hn <;> omega
theorem rdo_any (x : List Int) (hx : x.length = 16) (p : Int) (c : Cd) (w : World) (h8 : c.op < 256) : Calls Tryd.prog 11 #[.agg (row x), .int .i64 p, .agg (ca c)] w fun e w' => e = .returned (.tuple #[.agg (row (doR x p c)), .int .i64 (doT x p c), .int .i64 (doE p c)]) ∧ w.grownBy w' none := by
  have hx0 : (x.set 0 0).length = 16 := by simp [hx]
  cases hm : may c
  · obtain ⟨op, a, b, c, n⟩ := c
    unfold ca doR doT
    rw [show doE p ⟨op, a, b, c, n⟩ = 2 from if_neg (fun h => by rw [hm] at h; cases h.1)]
    exact rdo_may x hx p op a b c n w h8 hm
  · obtain ⟨n0, n1⟩ := may_n hm
    obtain ⟨op, a, b, c, n⟩ := c
    unfold ca doR doT
    simp only at h8 n0 n1 ⊢
    by_cases hp0 : 0 ≤ p
    · by_cases hp : p ≤ 1024
      · have ho := (may_parts hm).1
        simp only at ho
        by_cases hk : asks op
        · rw [show doE p ⟨op, a, b, c, n⟩ = 4 from (if_pos ⟨hm, hp0, hp⟩).trans (if_pos hk)]
          rcases hk with rfl | rfl | rfl | rfl | rfl | rfl | rfl | rfl
          · exact rdo_0 x hx p a b c n w hm hp0 hp n0 n1
          · exact rdo_9 x hx p a b c n w hm hp0 hp n0 n1
          · exact rdo_10 x hx p a b c n w hm hp0 hp n0 n1
          · exact rdo_11 x hx p a b c n w hm hp0 hp n0 n1
          · exact rdo_17 x hx p a b c n w hm hp0 hp n0 n1
          · exact rdo_18 x hx p a b c n w hm hp0 hp n0 n1
          · exact rdo_19 x hx p a b c n w hm hp0 hp n0 n1
          · exact rdo_20 x hx p a b c n w hm hp0 hp n0 n1
        · rw [show doE p ⟨op, a, b, c, n⟩ = 0 from (if_pos ⟨hm, hp0, hp⟩).trans (if_neg hk)]
          unfold asks at hk
          rw [if_pos rfl, if_pos rfl]
          obtain rfl | rfl | rfl | rfl | rfl | rfl | rfl | rfl | rfl | rfl | rfl | rfl | rfl | rfl : op = 1 ∨ op = 2 ∨ op = 3 ∨ op = 4 ∨ op = 5 ∨ op = 6 ∨ op = 7 ∨ op = 8 ∨ op = 12 ∨ op = 13 ∨ op = 14 ∨ op = 15 ∨ op = 16 ∨ op = 21 := by omega
          · exact rdo_1 x hx p a b c n w hm hp0 hp n0 n1
          · exact rdo_2 x hx p a b c n w hm hp0 hp n0 n1
          · exact rdo_3 x hx p a b c n w hm hp0 hp n0 n1
          · exact rdo_4 x hx p a b c n w hm hp0 hp n0 n1
          · exact rdo_5 x hx p a b c n w hm hp0 hp n0 n1
          · have hr : res (x.set 0 0) ⟨6, a, b, c, n⟩ = pt (x.set 0 0) a (tru (decide (gt (x.set 0 0) b < gt (x.set 0 0) c))) := rfl
            rw [hr]
            cases ht : decide (gt (x.set 0 0) b < gt (x.set 0 0) c)
            · exact rdo_6_false x hx p a b c n w hm hp0 hp n0 n1 ht
            · exact rdo_6_true x hx p a b c n w hm hp0 hp n0 n1 ht
          · exact rdo_7 x hx p a b c n w hm hp0 hp n0 n1
          · exact rdo_8 x hx p a b c n w hm hp0 hp n0 n1 _ rfl
          · exact rdo_12 x hx p a b c n w hm hp0 hp n0 n1 _ rfl
          · have hr : res (x.set 0 0) ⟨13, a, b, c, n⟩ = pt (x.set 0 0) a (gt (x.set 0 0) a) := (pt_gt hx0 a).symm
            rw [hr]
            cases ht : (gt (x.set 0 0) a == gt (x.set 0 0) b)
            · rw [show goes (x.set 0 0) p ⟨13, a, b, c, n⟩ = p + 1 by simp [goes, val, ht, tru]]
              exact rdo_13_false x hx p a b c n w hm hp0 hp n0 n1 ht
            · rw [show goes (x.set 0 0) p ⟨13, a, b, c, n⟩ = p + 1 + n by simp [goes, val, ht, tru]]
              exact rdo_13_true x hx p a b c n w hm hp0 hp n0 n1 ht
          · have hr : res (x.set 0 0) ⟨14, a, b, c, n⟩ = pt (x.set 0 0) a (gt (x.set 0 0) a) := (pt_gt hx0 a).symm
            rw [hr]
            cases ht : (gt (x.set 0 0) a != gt (x.set 0 0) b)
            · rw [show goes (x.set 0 0) p ⟨14, a, b, c, n⟩ = p + 1 by simp [goes, val, ht, tru]]
              exact rdo_14_false x hx p a b c n w hm hp0 hp n0 n1 ht
            · rw [show goes (x.set 0 0) p ⟨14, a, b, c, n⟩ = p + 1 + n by simp [goes, val, ht, tru]]
              exact rdo_14_true x hx p a b c n w hm hp0 hp n0 n1 ht
          · have hr : res (x.set 0 0) ⟨15, a, b, c, n⟩ = pt (x.set 0 0) a (gt (x.set 0 0) a) := (pt_gt hx0 a).symm
            rw [hr]
            cases ht : decide (gt (x.set 0 0) a < gt (x.set 0 0) b)
            · rw [show goes (x.set 0 0) p ⟨15, a, b, c, n⟩ = p + 1 by simp only [goes, val, ht, tru]; simp]
              exact rdo_15_false x hx p a b c n w hm hp0 hp n0 n1 ht
            · rw [show goes (x.set 0 0) p ⟨15, a, b, c, n⟩ = p + 1 + n by simp only [goes, val, ht, tru]; simp]
              exact rdo_15_true x hx p a b c n w hm hp0 hp n0 n1 ht
          · have hr : res (x.set 0 0) ⟨16, a, b, c, n⟩ = pt (x.set 0 0) a (gt (x.set 0 0) a) := (pt_gt hx0 a).symm
            rw [hr]
            exact rdo_16 x hx p a b c n w hm hp0 hp n0 n1
          · have hr : res (x.set 0 0) ⟨21, a, b, c, n⟩ = pt (x.set 0 0) a (gt (x.set 0 0) a) := (pt_gt hx0 a).symm
            rw [hr]
            exact rdo_21 x hx p a b c n w hm hp0 hp n0 n1
      · rw [show doE p ⟨op, a, b, c, n⟩ = 2 from if_neg (fun h => hp h.2.2)]
        exact rdo_high x hx p op a b c n w h8 hm hp0 (by omega)
    · rw [show doE p ⟨op, a, b, c, n⟩ = 2 from if_neg (fun h => hp0 h.2.1)]
      exact rdo_low x hx p op a b c n w h8 hm (by omega)
end Go.Proofs.YtmfckkioccmblaaDoor.sg
