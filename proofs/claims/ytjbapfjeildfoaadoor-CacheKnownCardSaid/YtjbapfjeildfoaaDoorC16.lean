/-
  The law CacheKnown returns true: the walk. Condition: the table of bounds lies in its variable as the program's text has it.
-/
import Derived.Test.YtjbapfjeildfoaaDoorC14
namespace Go.Proofs.YtjbapfjeildfoaaDoor.kk
open Go Go.ChangeShapes Go.WideShapes Go.ChangeAt Go.RowKit Go.Shelf
set_option linter.unusedVariables false

def S3 : List St := (cuse pairC S2 4).1
def S4 : List St := (cdrop pairC S3 6).1
def S5 : List St := (cput pairC S4 (mk 5 1)).1
def S6 : List St := (cturn pairC S5 4 2).1
def S7 : List St := (cwrite pairC S6 4 0 1).1
def L4 : Ln := (cfind pairC S7 4).1
theorem k3 : (cuse pairC S2 4).2 = true := by decide +kernel
theorem k4 : cgoes pairC S3 5 = (mk 6 2, true) := by decide +kernel
theorem k5 : (cdrop pairC S3 6).2 = true := by decide +kernel
theorem k6 : (cput pairC S4 (mk 5 1)).2 = 0 := by decide +kernel
theorem k7 : cwrite pairC S5 4 0 1 = (S5, 8) := by decide +kernel
theorem k8 : (cturn pairC S5 4 2).2 = 0 := by decide +kernel
theorem k9 : (cwrite pairC S6 4 0 1).2 = 0 := by decide +kernel
theorem k10 : cfind pairC S7 6 = (zl, false) := by decide +kernel
theorem k11 : cfind pairC S7 4 = (L4, true) := by decide +kernel
theorem k12 : (ln L4)[1]? = some (.int .u8 3) := by
  have : L4.s = 3 := by decide +kernel
  rw [ln1, this]
theorem k13 : (ln L4)[2]? = some (.int .u32 1) := by
  have : L4.d[0]? = some 1 := by decide +kernel
  rw [show 2 = 2 + 0 from rfl, ln_d, this]; rfl

/-- The cache, and a line's variable beside it. -/
structure Kn (w w1 : World) (K : Loc) (ss : List St) (B : Nat) (l : Ln) : Prop where
  go : Go1 w w1 K pairC ss
  box : w1.heap[B]? = some (.cells (la l) 36 (0, 0))
  ne : ¬ K.any B
section
variable {w w1 w2 : World} {K : Loc} {ss ss' : List St} {B : Nat} {l : Ln}
theorem Kn.more (h : Kn w w1 K ss B l) (hg : w1.grownBy w2 none) : Kn w w2 K ss B l := ⟨h.go.more hg, (hg.block B (lt_of h.box) (by simp)).trans h.box, h.ne⟩
theorem Kn.next (h : Kn w w1 K ss B l) (hc : Cac w2 K pairC ss') (hk : Kept K.own w1 w2) : Kn w w2 K ss' B l := ⟨h.go.next hc hk, (hk.block B (lt_of h.box) (fun ho => h.ne (.inr ho))).trans h.box, h.ne⟩
theorem Kn.store (h : Kn w w1 K ss B l) (l' : Ln) (hB : w.heap.size ≤ B) : Kn w (w1.setRow B (la l')) K ss B l' :=
  ⟨⟨h.go.cac.same (fun k hk => setRow_other _ _ _ _ (fun e => h.ne (e ▸ hk))), grown_setRow h.go.grown _ hB _, h.go.new⟩, setRow_heap _ _ _ _ _ _ h.box, h.ne⟩
theorem Kn.cells (h : Kn w w1 K ss B l) : w1.rangeAt B 0 (ln l) := range_of h.box
end

set_option maxRecDepth 1000000 in
set_option maxHeartbeats 8000000 in
theorem known_true (w : World) (hT : Tab w) : Calls Tryd.prog 3 #[] w fun e w' => e = .returned (.bool true) ∧ w.grownBy w' none := by
  have HT := Lib.hid (fun w' (h : w.grownBy w' none) => hT.grown h)
  have HP := Lib.hid (pair_any w)
  have HN : Hid (∀ w', w.grownBy w' none → _) := Lib.hid (fun w' h => new_ok pairC w' (hT.grown h) pair_may)
  have HW : Hid (∀ w', w.grownBy w' none → _) := Lib.hid (fun w' h => works_any w' (hT.grown h))
  clear hT
  obtain ⟨t, nn, HTT, hagg, hsize, hld0, hsz, hst⟩ := named2
  have HLD := Lib.hid hld0
  clear hld0 hst hsz
  go_enter Tryd.func3, Tryd.ntmps3
  rw [HTT.out.1]
  go_wp2_with (first
    | (go_at_call 9; ((with_reducible refine HP.out.mono ?_); rintro e w0 ⟨rfl, hg0⟩; have HG0 := Lib.hid hg0; clear hg0))
    | (go_at_call 8; ((with_reducible refine (HN.out _ HG0.out).mono ?_); rintro e w1 ⟨K, rfl, hc1, hg1, hf1⟩; have H1 : Hid (Go1 w w1 K pairC S0) := Lib.hid ⟨hc1, grown_trans HG0.out hg1, fun k hk => Nat.le_trans HG0.out.size (hf1 k hk)⟩; clear hc1 hg1 hf1))
    | (go_at_call 10; ((refine (HW.out _ H1.out.grown).mono ?_); rintro e w2 ⟨rfl, hg2⟩; have H2 := Lib.hid (H1.out.more hg2); clear hg2 H1))
    | (go_at_call 12; ((with_reducible refine (line_any 4 1 w2).mono ?_); rintro e w3 ⟨rfl, hg3⟩; have H3 := Lib.hid (H2.out.more hg3); clear hg3 H2))
    | (go_at_call 11; ((with_reducible refine (put_any K pairC S0 w3 H3.out.cac (HT.out _ H3.out.grown) (mk 4 1)).mono ?_); rintro e w4 ⟨he, hc4, hk4⟩; (rw [e1] at he); subst he; have H4 : Hid (Go1 w w4 K pairC S1) := Lib.hid (H3.out.next hc4 hk4); clear hc4 hk4 H3))
    | (go_at_call 12; ((with_reducible refine (line_any 6 2 w4).mono ?_); rintro e w5 ⟨rfl, hg5⟩; have H5 := Lib.hid (H4.out.more hg5); clear hg5 H4))
    | (go_at_call 11; ((with_reducible refine (put_any K pairC S1 w5 H5.out.cac (HT.out _ H5.out.grown) (mk 6 2)).mono ?_); rintro e w6 ⟨he, hc6, hk6⟩; (rw [e2] at he); subst he; have H6 : Hid (Go1 w w6 K pairC S2) := Lib.hid (H5.out.next hc6 hk6); clear hc6 hk6 H5))
    | (go_at_call 13; ((with_reducible refine (uses_any K pairC S2 w6 H6.out.cac (HT.out _ H6.out.grown) 4).mono ?_); rintro e w7 ⟨he, hc7, hk7⟩; (rw [k3] at he); subst he; have H7 : Hid (Go1 w w7 K pairC S3) := Lib.hid (H6.out.next hc7 hk7); clear hc7 hk7 H6))
    | (go_at_call 14; ((with_reducible refine (goes_any K pairC S3 w7 H7.out.cac (HT.out _ H7.out.grown) 5).mono ?_); rintro e w8 ⟨he, hg8⟩; (rw [k4] at he); subst he; have H8 := Lib.hid (H7.out.more hg8); have b8 := (box_ln w8 (mk 6 2)).1; (rw [show (mk 6 2).b = 6 from rfl] at b8); have HK8 : Hid (Kn w (w8.alloc (.cells (la (mk 6 2)) 36)) K S3 w8.heap.size (mk 6 2)) := Lib.hid ⟨H8.out.more (grown_alloc (grown_refl _ _) _), heap_alloc_new _ _, fun hk => Nat.lt_irrefl _ (H8.out.cac.lt hk)⟩; have HB8 : Hid (w.heap.size ≤ w8.heap.size) := Lib.hid H8.out.grown.size; clear hg8 H7 H8))
    | ((with_reducible refine store_new' (mk 6 2) 3 38 ?_ ?_ ?_); (rfl); (rfl)))
  obtain ⟨B, hB⟩ : ∃ B, B = w8.heap.size := ⟨_, rfl⟩
  rw [← hB] at HK8 HB8 b8 ⊢
  clear hB
  go_wp2_with (first
    | (go_at_call 15; ((with_reducible refine (drop_any K pairC S3 _ HK8.out.go.cac (HT.out _ HK8.out.go.grown) 6).mono ?_); rintro e w9 ⟨he, hc9, hk9⟩; (rw [k5] at he); subst he; have HK9 : Hid (Kn w w9 K S4 B (mk 6 2)) := Lib.hid (HK8.out.next hc9 hk9); clear hc9 hk9 HK8))
    | (go_at_call 12; ((with_reducible refine (line_any 5 1 w9).mono ?_); rintro e w10 ⟨rfl, hg10⟩; have HK10 := Lib.hid (HK9.out.more hg10); clear hg10 HK9))
    | (go_at_call 11; ((with_reducible refine (put_any K pairC S4 w10 HK10.out.go.cac (HT.out _ HK10.out.go.grown) (mk 5 1)).mono ?_); rintro e w11 ⟨he, hc11, hk11⟩; (rw [k6] at he); subst he; have HK11 : Hid (Kn w w11 K S5 B (mk 6 2)) := Lib.hid (HK10.out.next hc11 hk11); clear hc11 hk11 HK10))
    | (go_at_call 16; ((with_reducible refine (write_any K pairC S5 w11 HK11.out.go.cac (HT.out _ HK11.out.go.grown) 4 0 1).mono ?_); rintro e w12 ⟨he, hc12, hk12⟩; (rw [k7] at he hc12); subst he; have HK12 : Hid (Kn w w12 K S5 B (mk 6 2)) := Lib.hid (HK11.out.next hc12 hk12); clear hc12 hk12 HK11))
    | (go_at_call 17; ((with_reducible refine (turn_any K pairC S5 w12 HK12.out.go.cac (HT.out _ HK12.out.go.grown) 4 2).mono ?_); rintro e w13 ⟨he, hc13, hk13⟩; (rw [k8] at he); subst he; have HK13 : Hid (Kn w w13 K S6 B (mk 6 2)) := Lib.hid (HK12.out.next hc13 hk13); clear hc13 hk13 HK12))
    | (go_at_call 16; ((with_reducible refine (write_any K pairC S6 w13 HK13.out.go.cac (HT.out _ HK13.out.go.grown) 4 0 1).mono ?_); rintro e w14 ⟨he, hc14, hk14⟩; (rw [k9] at he); subst he; have HK14 : Hid (Kn w w14 K S7 B (mk 6 2)) := Lib.hid (HK13.out.next hc14 hk14); clear hc14 hk14 HK13))
    | (go_at_call 18; ((with_reducible refine (find_any K pairC S7 w14 HK14.out.go.cac (HT.out _ HK14.out.go.grown) 6).mono ?_); rintro e w15 ⟨he, hg15⟩; (rw [k10] at he); subst he; have HK15 := Lib.hid (HK14.out.more hg15); clear hg15 HK14))
    | (go_at_call 18; ((with_reducible refine (find_any K pairC S7 w15 HK15.out.go.cac (HT.out _ HK15.out.go.grown) 4).mono ?_); rintro e w16 ⟨he, hg16⟩; (rw [k11] at he); subst he; have HK16 := Lib.hid (HK15.out.more hg16); clear hg16 HK15))
    | ((with_reducible refine store_any L4 (mk 6 2) 3 81 B ?_ ?_ HK16.out.box ?_); (rfl); (rfl))
    | (go_at_call 18; ((with_reducible refine (find_nil 0 _).mono ?_); rintro e w17 ⟨rfl, hg17⟩; have HK17 := Lib.hid ((HK16.out.store L4 HB8.out).more hg17); have HK17b := Lib.hid (HK17.out.more (grown_alloc (grown_refl _ _) (.cells (la zl) 36))); clear hg17 HK16))
    | ((with_reducible refine store_new' zl 7 86 ?_ ?_ ?_); (rfl); (rfl))
    | (go_at_call 14; ((with_reducible refine (goes_nil 0 _ (by decide)).mono ?_); rintro e w18 ⟨rfl, hg18⟩; have HK18 := Lib.hid (HK17b.out.more hg18); have HK19 := Lib.hid (HK18.out.more (grown_alloc (grown_refl _ _) (.cells (la zl) 36))); have d1 := HK19.out.cells 1 _ k12; have d2 := HK19.out.cells 2 _ k13; have hld := HLD.out B 0 L4 _ HK19.out.cells; (rw [Nat.zero_add] at d1 d2); clear hg18 HK17 HK17b))
    | ((with_reducible refine store_new' zl 9 91 ?_ ?_ ?_); (rfl); (rfl)))
  have HG19 := Lib.hid HK19.out.go.grown
  clear HK18 HK19 d1 d2 hld b8
  go_wp2_with (first
    | (go_at_call 11; ((with_reducible refine (put_nil L4 _).mono ?_); rintro e w19 ⟨rfl, hg19⟩; have HG20 := Lib.hid (grown_trans HG19.out hg19); clear hg19))
    | (go_at_call 16; ((with_reducible refine (write_nil 0 w19 0 0).mono ?_); rintro e w20 ⟨rfl, hg20⟩; have HG21 := Lib.hid (grown_trans HG20.out hg20); clear hg20))
    | (go_at_call 17; ((with_reducible refine (turn_nil 0 w20 1).mono ?_); rintro e w21 ⟨rfl, hg21⟩; have HG22 := Lib.hid (grown_trans HG21.out hg21); clear hg21))
    | (go_at_call 15; ((with_reducible refine (drop_nil 0 w21).mono ?_); rintro e w22 ⟨rfl, hg22⟩; have HG23 := Lib.hid (grown_trans HG22.out hg22); clear hg22))
    | (go_at_call 13; ((with_reducible refine (use_nil 0 w22).mono ?_); rintro e w23 ⟨rfl, hg23⟩; have HG24 := Lib.hid (grown_trans HG23.out hg23); clear hg23))
    | (go_at_call 19; ((with_reducible refine (len_nil w23 (HT.out _ HG24.out)).mono ?_); rintro e w24 ⟨rfl, hg24⟩; have HG25 := Lib.hid (grown_trans HG24.out hg24); clear hg24))
    | (go_at_call 20; ((with_reducible refine (copy_nil w24).mono ?_); rintro e w25 ⟨rfl, hg25⟩; have HG26 := Lib.hid (grown_trans HG25.out hg25); clear hg25)))
  go_ret
  exact ⟨rfl, HG26.out⟩
end Go.Proofs.YtjbapfjeildfoaaDoor.kk
