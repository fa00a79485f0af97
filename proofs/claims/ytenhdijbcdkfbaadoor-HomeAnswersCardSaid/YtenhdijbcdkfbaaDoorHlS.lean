/-
  HomeAnswers' walk. Condition: the tables lie in their variables as the program's text has them; the asks lie where the argument says.
-/
import Derived.Test.YtenhdijbcdkfbaaDoorHlR
namespace Go.Proofs.YtenhdijbcdkfbaaDoor.hh
open Go Go.ChangeShapes Go.WideShapes Go.ChangeAt Go.RowKit
open Go.Proofs.YtenhdijbcdkfbaaDoor.tt (Nt Cfg fits net bare zd usd uses coreOf ok_ends MapAt mput mdel ik NPool NSl Turn flat na nt zn grown_alloc grown_refl grown_trans tyne lt_of)
open Go.Proofs.YtenhdijbcdkfbaaDoor.en (En gets back asked asks free ask_parts may_parts ea)
open Go.Proofs.YtenhdijbcdkfbaaDoor.mm (wi wo ones wo_lt)
set_option linter.unusedVariables false
set_option linter.unusedSimpArgs false

/-- An ask of the law's. -/
structure Ak where
  k : Int
  co : Int
  b : Int
  p : Int
  r : Bool
instance : Inhabited Ak := ⟨⟨0, 0, 0, 0, false⟩⟩
def akc (a : Ak) : List Value := [.int .u8 a.k, .int .i64 a.co, .int .i64 a.b, .int .i64 a.p, .bool a.r]
/-- The note of it. -/
def akn (a : Ak) : Nt := bare a.k a.co (-1) a.b 0 0 (decide (a.k = 3)) false
/-- The asks of a slice lie behind its address. -/
def AsksAt (w : World) (ad : Option Addr) (l : List Ak) : Prop := ∀ (k : Nat) a, l[k]? = some a → ∃ b off, ad = some ⟨b, off, none⟩ ∧ w.rangeAt b (off + k * 5) (akc a)
theorem AsksAt.grown {w w' : World} {ad : Option Addr} {l : List Ak} (h : AsksAt w ad l) (hg : w.grownBy w' none) : AsksAt w' ad l := fun k a hk => by
  obtain ⟨b, off, e, hr⟩ := h k a hk
  exact ⟨b, off, e, tt.range_grown hr hg (by simp)⟩
theorem cellsK : Tryd.prog.cellsOf 63 = 5 := by kernel_rfl
section
variable {H : Type} {enc : TypeId × Value → H} {W : World} {d : DataW H} {p : List MemPlace}
set_option maxRecDepth 100000 in
theorem ak_trod {base fuel : Nat} {sp : Nat → Bool} {held : Bool} {cs : List Value} {x : DataW H × List MemPlace} (hf : DataW.trod enc Tryd.prog W base sp held fuel 63 cs = some x) : ∃ a : Ak, cs = akc a := by
  obtain ⟨ys, m, _, hx, hsz, hyl, hat⟩ := DataW.trod_struct Tryd.underlying63 hf
  rw [cellsK] at hsz
  match cs, hsz, ys, hyl with
  | [v0, v1, v2, v3, v4], hsz, [y0, y1, y2, y3, y4], _ =>
    have e0 := hat 0 _ rfl
    have e1 := hat 1 _ rfl
    have e2 := hat 2 _ rfl
    have e3 := hat 3 _ rfl
    have e4 := hat 4 _ rfl
    dsimp at e0 e1 e2 e3 e4
    rw [cells5] at e0
    rw [cells3] at e1 e2 e3
    rw [cells4] at e4
    obtain ⟨z0, a0, b0, w0⟩ := DataW.trod_int Tryd.underlying5 e0
    obtain ⟨z1, a1, b1, w1⟩ := DataW.trod_int Tryd.underlying3 e1
    obtain ⟨z2, a2, b2, w2⟩ := DataW.trod_int Tryd.underlying3 e2
    obtain ⟨z3, a3, b3, w3⟩ := DataW.trod_int Tryd.underlying3 e3
    obtain ⟨z4, a4, b4⟩ := DataW.trod_bool Tryd.underlying4 e4
    simp at a0 a1 a2 a3 a4
    refine ⟨⟨z0, z1, z2, z3, z4⟩, ?_⟩
    subst a0 a1 a2 a3 a4
    rfl
theorem asks_at {a0 : Option Addr} {len cap : Nat} (h : DataW.Trod enc Tryd.prog W 0 (fun _ => true) true 53 (.slice a0 len cap) d p) : ∃ l : List Ak, len = l.length ∧ AsksAt W a0 l := by
  obtain ⟨fuel, hf⟩ := h
  rcases Go.Deep.open_slice Tryd.underlying53 hf with ⟨hcs, hx⟩ | ⟨a, len', cap', m, n, D, Pl, hcs, _, hl, hm, hmm, hx, hcell⟩
  · simp [Value.cells] at hcs
    obtain ⟨rfl, rfl, rfl⟩ := hcs
    exact ⟨[], rfl, fun k x hk => by simp at hk⟩
  · simp [Value.cells] at hcs
    obtain ⟨rfl, rfl, rfl⟩ := hcs
    simp only [if_true] at hmm
    subst hmm
    have each : ∀ i, i < len → ∃ q : Ak, ∃ b off, a.add (i * 5) = ⟨b, off, none⟩ ∧ W.rangeAt b off (akc q) := by
      intro i hi
      obtain ⟨cs', h1, h2⟩ := hcell i (by omega)
      rw [cellsK] at h1
      obtain ⟨q, rfl⟩ := ak_trod h2
      obtain ⟨b, off, ha, hr⟩ := cells_range h1 (by omega)
      exact ⟨q, b, off, ha, hr⟩
    obtain ⟨q, hq⟩ := Go.Deep.choose_lt each
    refine ⟨(List.range len).map q, by simp, fun k x hk => ?_⟩
    rw [List.getElem?_map, Option.map_eq_some_iff] at hk
    obtain ⟨y, hy, rfl⟩ := hk
    obtain ⟨hy1, hy2⟩ := List.getElem?_eq_some_iff.1 hy
    simp at hy1 hy2
    subst hy2
    obtain ⟨b, off, ha, hr⟩ := hq k hy1
    obtain ⟨b0, off0, ha0, _⟩ := hq 0 (by omega)
    have e0 : a = ⟨b0, off0, none⟩ := by rw [← ha0]; simp [Addr.add]
    subst e0
    rw [tt.add_lit] at ha
    cases ha
    exact ⟨_, _, rfl, hr⟩
end
section
variable {w : World} {ops : Array Oper} {rest : List Oper} {a : Act} {Q : Exit → Act → World → Prop} {dst : Option Tmp} {ty : TypeId} {pos : String} {after : Array Edge}
theorem store_litS (n : Nt) (A : Array Value) (hA : na n = A) (c : Array Value) (x y : Tmp) (g : Nat) (hg : g = w.heap.size) (hx : a.eval (.tmp x) = .pointer (some ⟨g, 0, none⟩)) (hy : a.eval (.tmp y) = .agg A) (hc : c.size = 24)
    (h : wpList Tryd.prog ops Q rest (a.put dst undef) (w.alloc (.cells A 31))) : wpList Tryd.prog ops Q (⟨dst, .store 31 (.tmp x) (.tmp y), ty, pos, after, none⟩ :: rest) a (w.alloc (.cells c 31)) := by
  subst hg; exact tt.store_lit n A hA c x y hx hy hc h
end
theorem grown_new {a b d : World} {R : Nat} (h : a.grownBy b none) (k : b.grownBy d (some R)) (hR : a.heap.size ≤ R) : a.grownBy d none :=
  ⟨k.os.trans h.os, k.tape.trans h.tape, k.output.trans h.output, Nat.le_trans h.size k.size, fun i hi _ => (k.block i (Nat.lt_of_lt_of_le hi h.size) (fun e => by cases e; omega)).trans (h.block i hi (by simp))⟩
/-- What holds while asks are taken: after so many steps. -/
structure Flo (w wr : World) (fb h : Nat) (c : Cfg) (qd qc : Nat) (F : Ft) (H : Hm) (vw : Value) (way : List Nt) (D C : Int → Int → Int) (P N M : Nat) : Prop where
  own : Own w wr h c F H
  fl : FlAt wr w.heap.size fb h F qd qc vw way D C
  fi : FI c H way (fun x b => D x b - C x b)
  pot : Pot H ≤ P
  len : way.length ≤ N
  c' : ∀ a q, 0 ≤ C a q ∧ C a q ≤ N
  d' : ∀ a q, 0 ≤ D a q ∧ D a q ≤ M
section
variable {w wr w2 : World} {fb h : Nat} {c : Cfg} {qd qc : Nat} {F : Ft} {H : Hm} {vw : Value} {way : List Nt} {D C : Int → Int → Int} {P N M : Nat}
theorem Flo.grown (L : Flo w wr fb h c qd qc F H vw way D C P N M) (hg : wr.grownBy w2 none) : Flo w w2 fb h c qd qc F H vw way D C P N M := ⟨L.own.grown hg, L.fl.grown hg, L.fi, L.pot, L.len, L.c', L.d'⟩
theorem Flo.more (L : Flo w wr fb h c qd qc F H vw way D C P N M) {P' N' M' : Nat} (h1 : P ≤ P') (h2 : N ≤ N') (h3 : M ≤ M') : Flo w wr fb h c qd qc F H vw way D C P' N' M' := ⟨L.own, L.fl, L.fi, Nat.le_trans L.pot h1, Nat.le_trans L.len h2, fun a q => by have := L.c' a q; omega, fun a q => by have := L.d' a q; omega⟩
theorem flo_one (T : Tabs w) (L : Flo w wr fb h c qd qc F H vw way D C P N M) (hne : way ≠ []) (hN : N ≤ 900000000) (k0 co b0 p : Int) (rf : Bool) : Calls Tryd.prog 25 #[.pointer (some ⟨fb, 0, none⟩), .agg #[.int .u8 k0, .int .i64 co, .int .i64 b0, .int .i64 p, .bool rf]] wr fun e w' => e = .returned (.bool true) ∧ ∃ F' H' v' way' C', Flo w w' fb h c qd qc F' H' v' way' D C' (P - 1) (N + 2641) M ∧ 1 ≤ P :=
  (one_any T L.own L.fl k0 co b0 p rf L.fi hne (fun a q => by have := L.c' a q; omega) (by have := L.len; omega)).mono fun e w' ⟨he, F', H', v', way', out, h1, h2, h3, h4, h5, h6⟩ =>
    ⟨he, F', H', v', way', _, ⟨h1, h2, h3, by have := L.pot; omega, by have := L.len; omega, fun a q => by
      have h7 := came_le out a q
      have := L.c' a q
      omega, L.d'⟩, by have := L.pot; omega⟩
theorem word_akn (a : Ak) : Word (akn a) := ⟨Int.le_refl _, by show (0 : Int) < _; omega⟩
/-- A note that is refused. -/
theorem flo_bad (T : Tabs w) (L : Flo w wr fb h c qd qc F H vw way D C P N M) (a : Ak) (hr : ready c H (akn a) ≠ 0) : Calls Tryd.prog 16 #[.pointer (some ⟨h, 0, none⟩), .agg (na (akn a))] wr fun e w' => ∃ F' v er, e = .returned (.tuple #[v, .int .i64 er]) ∧ er ≠ 0 ∧ Flo w w' fb h c qd qc F' H vw way D C P N M ∧ Did wr w' F F' := by
  refine (own_take T L.own (akn a) (word_akn a)).mono fun e w' ⟨F', v, he, ho, hS, hD, _⟩ => ⟨F', v, _, he, ?_, ?_⟩
  · rw [take_err hr]; exact hr
  · rw [take_err hr] at ho
    exact ⟨⟨ho, L.fl.did hD, L.fi, L.pot, L.len, L.c', L.d'⟩, hD⟩
/-- A note that is taken. -/
theorem flo_good (T : Tabs w) (L : Flo w wr fb h c qd qc F H vw way D C P N M) (a : Ak) (hr : ready c H (akn a) = 0) (ha : net a.k = 0) : Calls Tryd.prog 16 #[.pointer (some ⟨h, 0, none⟩), .agg (na (akn a))] wr fun e w' => ∃ F' v, e = .returned (.tuple #[v, .int .i64 0]) ∧ Own w w' h c F' (take c H (akn a)).1 ∧ FlAt w' w.heap.size fb h F' qd qc vw way D C ∧ NSl w' v (take c H (akn a)).2.1 ∧ (∀ k, v.ownBlock = some k → some k ≠ vw.ownBlock) ∧ Did wr w' F F' := by
  refine (own_take T L.own (akn a) (word_akn a)).mono fun e w' ⟨F', v, he, ho, hS, hD, hf⟩ => ⟨F', v, by rw [he, take_ok hr], ho, L.fl.did hD, hS, fun k hk e => by
    have := (hf k hk).1
    have := L.fl.sl.lt k e.symm
    omega, hD⟩
/-- What goes out of it arrives. -/
theorem flo_sends {w7 : World} {F' : Ft} {v : Value} (L : Flo w wr fb h c qd qc F H vw way D C P N M) (hN : N ≤ 900000000) (a : Ak) (hr : ready c H (akn a) = 0) (ha : net a.k = 0) (O : Own w w7 h c F' (take c H (akn a)).1) (K : FlAt w7 w.heap.size fb h F' qd qc vw way (qput D a.co a.b (D a.co a.b + 1)) C) (hS : NSl w7 v (take c H (akn a)).2.1) (hv : ∀ k, v.ownBlock = some k → some k ≠ vw.ownBlock) :
    Calls Tryd.prog 24 #[.pointer (some ⟨fb, 0, none⟩), v, .bool a.r] w7 fun e w' => (∃ u, e = .returned u) ∧ ∃ v' C', Flo w w' fb h c qd qc F' (take c H (akn a)).1 v' (way ++ ways a.r (take c H (akn a)).2.1) (qput D a.co a.b (D a.co a.b + 1)) C' (P + 17) (N + 2641) (M + 1) ∧ Mv w7 w' fb qd qc vw v' := by
  obtain ⟨s1, s2, s3⟩ := ask_step a.r L.fi (akn a) ha hr
  have hl := take_len L.own.at' (akn a)
  refine (sends_any O K v _ hS hv a.r (take_key L.fi.w.inv (akn a) (word_akn a)) (fun a q => by have := L.c' a q; omega) (by have := L.len; omega) hl).mono fun e w' ⟨he, v', h1, h2, h3⟩ => ⟨he, v', _, ⟨h1, h2, ?_, by have := L.pot; omega, ?_, fun x q => ?_, fun x q => ?_⟩, h3⟩
  · have e : (fun x b => qput D a.co a.b (D a.co a.b + 1) x b - (C x b + came (take c H (akn a)).2.1 x b)) = (fun x b => D x b - C x b + (if waitB x b (akn a) then 1 else 0) - came (take c H (akn a)).2.1 x b) := by
      funext x b
      have e1 : waitB x b (akn a) = (decide (a.co = x) && decide (a.b = b)) := rfl
      rw [e1]
      unfold qput
      by_cases h1 : x = a.co
      · by_cases h2 : b = a.b
        · subst h1 h2; simp; omega
        · rw [if_neg (c := x = a.co ∧ b = a.b) (fun e => h2 e.2), decide_eq_false (p := a.b = b) (fun e => h2 e.symm)]; simp; omega
      · rw [if_neg (c := x = a.co ∧ b = a.b) (fun e => h1 e.1), decide_eq_false (p := a.co = x) (fun e => h1 e.symm)]; simp; omega
    rw [e]; exact s2
  · rw [List.length_append]
    have := ways_len a.r (take c H (akn a)).2.1
    have := L.len; omega
  · have h7 := came_le (take c H (akn a)).2.1 x q
    have := L.c' x q
    omega
  · have h8 := L.d' x q
    have h9 := L.d' a.co a.b
    unfold qput; split <;> omega
theorem ask_wf {a : Ak} (hr : ready c H (akn a) = 0) (hI : Inv c H) (ha : net a.k = 0) : (0 ≤ a.b ∧ a.b ≤ 255) ∧ 0 ≤ a.co ∧ a.co ≤ 15 := by
  obtain ⟨hf, ht⟩ := ready_fits hr
  have hb := blk_lt hf
  have hd := data_256 hI.may
  have h2 : (akn a).b < c.data := hf.2.2
  have h3 := asks_core (c := c) (n := akn a) ⟨hf, ht, ha⟩
  have e1 : (akn a).b = a.b := rfl
  have e2 : (akn a).f = a.co := rfl
  omega
end
set_option maxRecDepth 1000000 in
set_option maxHeartbeats 40000000 in
theorem answers_long (c : Cfg) (ad : Option Addr) (len cap : Nat) (w : World) (T : Tabs w) (h : 200 < len) : Calls Tryd.prog 4 #[.agg c.cells, .slice ad len cap] w fun e w' => e = .returned (.bool true) ∧ w.grownBy w' none := by
  have hd : decide ((200 : Int) < (len : Int)) = true := by simp; omega
  have hg0 : w.grownBy (w.alloc (.cells c.cells 40)) none := grown_alloc (grown_refl _ _) _
  have HW : Hid (∀ w', w.grownBy w' none → _) := qh (fun w' h => works_any w' (T.grown h))
  have HG0 := qh hg0
  have HA := qh (tt.cfg_at w c)
  obtain ⟨c0, c1, c2, c3, c4, c5, c6, c7⟩ := HA.out
  clear T h hg0
  unfold Cfg.cells at *
  go_enter Tryd.func4, Tryd.ntmps4
  go_wp2_with (go_at_call 11; ((with_reducible refine (HW.out _ HG0.out).mono ?_); rintro e w3 ⟨rfl, hgw3⟩; have Gw3 := qh (grown_trans HG0.out hgw3); clear hgw3))
  go_ret
  exact ⟨rfl, Gw3.out⟩
set_option maxRecDepth 1000000 in
set_option maxHeartbeats 40000000 in
theorem answers_no (c : Cfg) (ad : Option Addr) (len cap : Nat) (w : World) (T : Tabs w) (h : len ≤ 200) (hm : ¬ c.may) : Calls Tryd.prog 4 #[.agg c.cells, .slice ad len cap] w fun e w' => e = .returned (.bool true) ∧ w.grownBy w' none := by
  have hd : decide ((200 : Int) < (len : Int)) = false := by simp; omega
  have hg0 : w.grownBy (w.alloc (.cells c.cells 40)) none := grown_alloc (grown_refl _ _) _
  have HW : Hid (∀ w', w.grownBy w' none → _) := qh (fun w' h => works_any w' (T.grown h))
  have HG0 := qh hg0
  have HA := qh (tt.cfg_at w c)
  have HMY := qh (tt.may_any c _ (T.grown hg0).t)
  rw [tt.yes_not hm] at HMY
  obtain ⟨c0, c1, c2, c3, c4, c5, c6, c7⟩ := HA.out
  clear T h hm hg0
  unfold Cfg.cells at *
  go_enter Tryd.func4, Tryd.ntmps4
  go_wp2_with (first
    | (go_at_call 21; ((with_reducible refine HMY.out.mono ?_); rintro e w2 ⟨rfl, hg2⟩; have HG2 := qh (grown_trans HG0.out hg2); clear hg2))
    | (go_at_call 11; ((with_reducible refine (HW.out _ HG2.out).mono ?_); rintro e w3 ⟨rfl, hgw3⟩; have Gw3 := qh (grown_trans HG2.out hgw3); clear hgw3)))
  go_ret
  exact ⟨rfl, Gw3.out⟩
set_option maxRecDepth 1000000 in
set_option maxHeartbeats 40000000 in
theorem answers_some (c : Cfg) (ad : Option Addr) (len cap : Nat) (w : World) (T : Tabs w) (l : List Ak) (hlen : len = l.length) (hat : AsksAt w ad l) (h0 : len ≤ 200) (hm : c.may) : Calls Tryd.prog 4 #[.agg c.cells, .slice ad len cap] w fun e w' => e = .returned (.bool true) ∧ w.grownBy w' none := by
  have hd : decide ((200 : Int) < (len : Int)) = false := by simp; omega
  have hg0 : w.grownBy (w.alloc (.cells c.cells 40)) none := grown_alloc (grown_refl _ _) _
  have HW : Hid (∀ w', w.grownBy w' none → _) := qh (fun w' h => works_any w' (T.grown h))
  have HG0 := qh hg0
  have HA := qh (tt.cfg_at w c)
  have HMY := qh (tt.may_any c _ (T.grown hg0).t)
  rw [tt.yes_of hm] at HMY
  have HMN : Hid (∀ w, _) := qh fun w => mem_new hm w
  have HN : Hid (∀ w1 mb mv, w.grownBy w1 none → pp.Mem w1 mb mv (m0 c) → (∀ i, mv.ownBlock = some i → w.heap.size ≤ i) → _) := qh fun w1 mb mv hg hM hv => own_new T hg hM hv hm (m0_len hm)
  have HT := qh T
  have HNEW := qh (floor_new c (m0 c) hm (by unfold m0; rw [List.length_replicate]) (fun r hr => by rw [(List.mem_replicate.1 hr).2]; rfl))
  have hmm := @run_makeMap Tryd.prog
  have HAT := qh (fun w' (h : w.grownBy w' none) => hat.grown h)
  have HL := qh hlen
  have HH0 := qh h0
  obtain ⟨c0, c1, c2, c3, c4, c5, c6, c7⟩ := HA.out
  clear T h0 hm hg0 hat hlen
  unfold Cfg.cells at HN HG0 HA HMY c0 c1 c2 c3 c4 c5 c6 c7 ⊢
  go_enter Tryd.func4, Tryd.ntmps4
  go_wp2_with (first
    | (go_at_call 21; ((with_reducible refine HMY.out.mono ?_); rintro e w2 ⟨rfl, hg2⟩; obtain ⟨d0, d1, d2, d3, d4, d5, d6, d7⟩ := HA.out.grown hg2; have HG2 := qh (grown_trans HG0.out hg2); have HA2 := qh (HA.out.grown hg2); clear hg2 c0 c1 c2 c3 c4 c5 c6 c7))
    | (go_at_call 22; ((with_reducible refine (HMN.out _).mono ?_); rintro e w3 ⟨mb, mv, rfl, hM, hg3, hmb, hmv⟩; obtain ⟨c0, c1, c2, c3, c4, c5, c6, c7⟩ := HA2.out.grown hg3; have HG3 := qh (grown_trans HG2.out hg3); have HM := qh hM; have HV := qh (fun i hi => Nat.le_trans HG2.out.size (hmv i hi)); clear hg3 hM hmb hmv d0 d1 d2 d3 d4 d5 d6 d7))
    | (go_at_call 14; ((with_reducible refine (HN.out _ mb mv HG3.out HM.out HV.out).mono ?_); rintro e w4 ⟨h, F, rfl, hO, _, _, _⟩; have HO := qh hO; clear hO c0 c1 c2 c3 c4 c5 c6 c7)))
  clear hmm HN HMN HMY HM HV HG3 HG2 HA HA2 HG0
  obtain ⟨wF, hwF⟩ : ∃ x, (((w4.alloc (.map #[] 0)).alloc (.map #[] 0)).alloc (.cells #[.pointer (some ⟨h, 0, none⟩), .slice none 0 0, .map (some w4.heap.size), .map (some (w4.heap.size + 1))] 61)) = x := ⟨_, rfl⟩
  obtain ⟨qd, hqd⟩ : ∃ x, w4.heap.size = x := ⟨_, rfl⟩
  obtain ⟨qc, hqc⟩ : ∃ x, qd + 1 = x := ⟨_, rfl⟩
  obtain ⟨fb, hfb⟩ : ∃ x, qc + 1 = x := ⟨_, rfl⟩
  have HF : Hid (Flo w wF fb h c qd qc F (new c (m0 c)) (.slice none 0 0) [] (fun _ _ => 0) (fun _ _ => 0) 0 0 0) := qh (by
    have hlt : ∀ i, F.own i → i < qd := fun i hi => hqd ▸ HO.out.at'.own_lt hi
    have hol := HO.out.old.size
    have h1 : w4.grownBy (w4.alloc (.map #[] 0)) none := grown_alloc (grown_refl _ _) _
    have h2 : (w4.alloc (.map #[] 0)).grownBy ((w4.alloc (.map #[] 0)).alloc (.map #[] 0)) none := grown_alloc (grown_refl _ _) _
    have s1 : (w4.alloc (.map #[] 0)).heap.size = qc := by rw [World.size_alloc]; omega
    have s2 : ((w4.alloc (.map #[] 0)).alloc (.map #[] 0)).heap.size = fb := by rw [World.size_alloc, s1]; exact hfb
    have h3 : ((w4.alloc (.map #[] 0)).alloc (.map #[] 0)).grownBy wF none := by rw [← hwF]; exact grown_alloc (grown_refl _ _) _
    have hb : wF.heap[fb]? = some (.cells #[.pointer (some ⟨h, 0, none⟩), .slice none 0 0, .map (some qd), .map (some qc)] 61 (0, 0)) := by
      rw [← hwF, ← s2, hqd, hqc]; exact heap_alloc_new _ _
    have hd : MapQ wF qd (fun _ _ => 0) := by rw [← hqd]; exact ((MapQ.new w4).grown h2).grown h3
    have hcq : MapQ wF qc (fun _ _ => 0) := by rw [← s1]; exact (MapQ.new _).grown h3
    exact ⟨HO.out.grown (grown_trans h1 (grown_trans h2 h3)), ⟨hb, tt.Sl.nil _ _ _, hd, hcq, ⟨fun e => by have := hlt _ e; omega, fun k hk => by simp [Value.ownBlock] at hk, fun e => by have := hlt _ e; omega, fun e => by have := hlt _ e; omega⟩, by omega, ⟨by omega, fun k hk => by simp [Value.ownBlock] at hk, by omega, by omega⟩⟩, HNEW.out.1, by rw [HNEW.out.2]; exact Nat.le_refl _, Nat.le_refl _, fun a q => ⟨Int.le_refl _, Int.le_refl _⟩, fun a q => ⟨Int.le_refl _, Int.le_refl _⟩⟩)
  rw [hwF, hqd, hqc, hfb]
  clear hwF hqd hqc hfb HO HNEW
  go_loopw [52] (fun i wr => ∃ (j : Nat) (F : Ft) (H : Hm) (vw : Value) (way : List Nt) (D C : Int → Int → Int), j ≤ len ∧ i = .int .i64 (j : Int) ∧ Flo w wr fb h c qd qc F H vw way D C (17 * j) (5282 * j) j) (fun i _ => len - (intOf i).toNat)
  case atStart => exact ⟨0, F, _, _, _, _, _, Nat.zero_le _, rfl, HF.out⟩
  case round =>
    clear HF
    obtain ⟨j, F1, H1, vw, way, D, C, hj, rfl, hl1⟩ := hrel
    have HL1 := qh hl1
    clear hl1
    have hj200 : j ≤ 200 := by have := HH0.out; omega
    by_cases hlt : j < len
    · obtain ⟨a, ha⟩ : ∃ a, l[j]? = some a := ⟨_, List.getElem?_eq_getElem (by have := HL.out; omega)⟩
      obtain ⟨b, off, rfl, hr⟩ := HAT.out _ HL1.out.own.old j a ha
      have r0 : wr.cell? ⟨b, off + j * 5, none⟩ = some (.int .u8 a.k) := hr 0 _ rfl
      have r1 : wr.cell? ⟨b, off + j * 5 + 1, none⟩ = some (.int .i64 a.co) := hr 1 _ rfl
      have r2 : wr.cell? ⟨b, off + j * 5 + 2, none⟩ = some (.int .i64 a.b) := hr 2 _ rfl
      have r3 : wr.cell? ⟨b, off + j * 5 + 3, none⟩ = some (.int .i64 a.p) := hr 3 _ rfl
      have r4 : wr.cell? ⟨b, off + j * 5 + 4, none⟩ = some (.bool a.r) := hr 4 _ rfl
      have HNB : Hid (na (bare a.k a.co (-1) a.b 0 0 false false) = _) := qh (tt.bare_na a.k a.co (-1) a.b 0 0 false false)
      clear ha hr
      have HNT : Hid (∀ w : World, _) := qh fun w => tt.net_any a.k w
      by_cases hk3 : a.k = 3
      · have HK3 := qh hk3
        have HK6 : Hid ((nt (bare a.k a.co (-1) a.b 0 0 false false)).take 6 ++ [.bool true] ++ (nt (bare a.k a.co (-1) a.b 0 0 false false)).drop (6 + 1) = nt (akn a)) := qh (by unfold akn; rw [decide_eq_true hk3]; rfl)
        have HN0 : Hid (net a.k = 0) := qh (by rw [hk3]; decide)
        rw [HN0.out] at HNT
        have hk3' : (a.k == 3) = true := by simpa using hk3
        clear hk3
        by_cases hrd : ready c H1 (akn a) = 0
        · have HRD := qh hrd
          clear hrd
          have hwf := ask_wf HRD.out HL1.out.own.at'.inv HN0.out
          have HWA : Hid ((Lit.int .i64 a.co).wf = true) := qh (WalkArith.wf_i64 (by omega))
          have HWB : Hid (0 ≤ a.b ∧ (Lit.int .i64 a.b).wf = true) := qh ⟨by omega, WalkArith.wf_i64 (by omega)⟩
          clear hwf
          go_wp2_with (first
            | ((with_reducible refine store_litS _ _ HNB.out _ _ _ (wr.heap.size + 1) ?_ ?_ ?_ ?_ ?_); (rw [World.size_alloc]); (rfl); (rfl); (rfl); obtain ⟨wA, hwA⟩ : ∃ x, wr.alloc (.cells #[.int .u8 a.k, .int .i64 a.co, .int .i64 a.b, .int .i64 a.p, .bool a.r] 63) = x := ⟨_, rfl⟩; obtain ⟨BA, hBA⟩ : ∃ B, wr.heap.size = B := ⟨_, rfl⟩; obtain ⟨wn, hwn⟩ : ∃ x, wA.alloc (.cells (na (bare a.k a.co (-1) a.b 0 0 false false)) 31) = x := ⟨_, rfl⟩; obtain ⟨BN, hBN⟩ : ∃ B, BA + 1 = B := ⟨_, rfl⟩; have hgA : wr.grownBy wA none := (by rw [← hwA]; exact grown_alloc (grown_refl _ _) _); have hgn : wA.grownBy wn none := (by rw [← hwn]; exact grown_alloc (grown_refl _ _) _); have hA0 : wA.heap[BA]? = some (.cells #[.int .u8 a.k, .int .i64 a.co, .int .i64 a.b, .int .i64 a.p, .bool a.r] 63 (0, 0)) := (by rw [← hwA, ← hBA]; exact heap_alloc_new _ _); have HAN := qh (row_up hA0 hgn); have hsA : wA.heap.size = BN := (by rw [← hwA, World.size_alloc]; omega); have HNN : Hid (wn.heap[BN]? = some (.cells (na (bare a.k a.co (-1) a.b 0 0 false false)) 31 (0, 0))) := qh (by rw [← hwn, ← hsA]; exact heap_alloc_new _ _); have HGN := qh (grown_trans hgA hgn); have HBA : Hid (wr.heap.size ≤ BA ∧ BA + 1 = BN) := qh (by omega); have n0 : wn.cell? ⟨BN, 0, none⟩ = some (.int .u8 a.k) := (note_cells (tt.range_of HNN.out)).1;  rw [← HNB.out, hwA, hwn, hBA, hBN]; clear hwA hwn hBA hBN hgA hgn hA0 hsA r0 r1 r2 r3 r4)
            | ((with_reducible refine store_at _ _ 6 BN (.bool true) (bare a.k a.co (-1) a.b 0 0 false false) (akn a) HNN.out ?_ ?_ ?_ ?_ ?_ ?_); (rfl); (kernel_rfl); (rfl); (decide); (exact HK6.out); obtain ⟨wm, hwm⟩ : ∃ x, wn.setRow BN (na (akn a)) = x := ⟨_, rfl⟩; have HGM : Hid (wr.grownBy wm none) := qh (by rw [← hwm]; exact en.grown_setRow HGN.out BN (by have := HBA.out; omega) _); have HNM : Hid (wm.heap[BN]? = some (.cells (na (akn a)) 31 (0, 0))) := qh (by rw [← hwm]; exact setRow_heap _ _ _ _ _ _ HNN.out); have HAM : Hid (wm.heap[BA]? = some (.cells #[.int .u8 a.k, .int .i64 a.co, .int .i64 a.b, .int .i64 a.p, .bool a.r] 63 (0, 0))) := qh (by rw [← hwm]; exact (setRow_other _ _ _ _ (by have := HBA.out; omega)).trans HAN.out); rw [hwm]; have HLM := qh (HL1.out.grown HGM.out); have HFA : Hid (¬ F1.own BA ∧ ¬ F1.own BN) := qh (by have h1 := fun i => HL1.out.own.at'.own_lt (i := i); have := HBA.out; exact ⟨fun e => by have := h1 _ e; omega, fun e => by have := h1 _ e; omega⟩); have n0' : wm.cell? ⟨BN, 0, none⟩ = some (.int .u8 a.k) := (note_cells (tt.range_of HNM.out)).1; clear hwm n0)
            | (go_at_call 23; ((with_reducible refine (HNT.out _).mono ?_); rintro e wq ⟨rfl, hwq⟩; obtain rfl := hwq.symm))
            | ((with_reducible refine tt.load_nt (akn a) _ BN ?_ (tt.range_of HNM.out) ?_); (rfl))
            | (go_at_call 16; ((with_reducible refine (flo_good HT.out HLM.out a HRD.out HN0.out).mono ?_); rintro e w7 ⟨F2, v, rfl, ho, hk, hS, hv, hD⟩; have HO7 := qh ho; have HK7 := qh hk; have HS7' := qh hS; have HV7 := qh hv; have HN7 := qh (hD.heap HNM.out HFA.out.2); have HA7 := qh (hD.heap HAM.out HFA.out.1); obtain ⟨adv, capv, hfv⟩ := hS.form; obtain ⟨lo, hlo⟩ : ∃ m, m = (take c H1 (akn a)).2.1.length := ⟨_, rfl⟩; rw [← hlo] at hfv; clear hlo; subst hfv; clear ho hk hS hv hD)))
          have HLQ := qh (HK7.out.grown (tt.grown_drew (grown_refl _ none)))
          have HBQ : Hid (w7.drew.heap[BN]? = some (.cells (na (akn a)) 31 (0, 0)) ∧ w7.drew.heap[BA]? = some (.cells #[.int .u8 a.k, .int .i64 a.co, .int .i64 a.b, .int .i64 a.p, .bool a.r] 63 (0, 0))) := qh ⟨HN7.out, HA7.out⟩
          have HGQ : Hid (w7.grownBy w7.drew none) := qh (tt.grown_drew (grown_refl _ _))
          refine wp_region_held_drew (S := fun w' => w'.cell? ⟨fb, 2, none⟩ = some (.map (some qd)) ∧ w'.heap[BN]? = some (.cells (na (akn a)) 31 (0, 0))) (by kernel_rfl) ⟨cr HLQ.out.blk 2 rfl, HBQ.out.1⟩ (fun hHeld => ?_)
          generalize w7.drew = wq at hHeld HLQ HBQ HGQ ⊢
          obtain ⟨c0, st, w8, hme, hq6, hg6, hst⟩ := count_q HLQ.out.due a.co a.b HWB.out.1 HWA.out HWB.out.2
          have hwy : IntKind.i64.wrap (D a.co a.b + 1) = D a.co a.b + 1 := IntWalk.i64_in _ (by have := HL1.out.d' a.co a.b; omega)
          obtain ⟨w9, hes, hq7, hg7⟩ := hst (D a.co a.b + 1)
          have hlk5 := lookup_q HLQ.out.due a.co a.b HWA.out HWB.out.2
          have hlk6 := lookup_q hq6 a.co a.b HWA.out HWB.out.2
          have hl6 := (HLQ.out.setD hq6 hg6).1
          have hg67 : wq.grownBy w9 (some qd) := grown_trans hg6 hg7
          obtain ⟨hl7, hm7⟩ := HLQ.out.setD hq7 hg67
          have hbx : ∀ {i : Nat} {cs : Array Value} {t : TypeId} (w' : World), wq.grownBy w' (some qd) → wq.heap[i]? = some (.cells cs t (0, 0)) → w'.heap[i]? = some (.cells cs t (0, 0)) := fun w' hg h9 => (hg.block _ (lt_of h9) (fun e => by obtain ⟨es, ck, h1, _⟩ := HLQ.out.due; rw [Option.some.inj e] at h9; rw [h1] at h9; cases h9)).trans h9
          have HS6 : Hid (w8.cell? ⟨fb, 2, none⟩ = some (.map (some qd)) ∧ w8.heap[BN]? = some (.cells (na (akn a)) 31 (0, 0))) := qh ⟨cr hl6.blk 2 rfl, hbx w8 hg6 HBQ.out.1⟩
          have HS7 : Hid (w9.cell? ⟨fb, 2, none⟩ = some (.map (some qd)) ∧ w9.heap[BN]? = some (.cells (na (akn a)) 31 (0, 0))) := qh ⟨cr hl7.blk 2 rfl, hbx w9 hg67 HBQ.out.1⟩
          have HA9 := qh (hbx w9 hg67 HBQ.out.2)
          have HK9 := qh hl7
          have HM9 : Hid (Mv w7 w9 fb qd qc vw vw) := qh ((Mv.of_grown _ _ _ _ HGQ.out).trans hm7)
          have HQ5 : Hid _ := qh hHeld
          clear hst hq6 hq7 hg6 hg7 hl6 hl7 hm7 hg67 hbx
          refine hh.tl 0 ⟨some 79, Op.move (.tmp 9), _, _, _, _⟩ ?v1 rfl ?hy1 ?_
          case hy1 => ((intro w0 hSw; go_simp); try (with_reducible rfl))
          try simp only [lay]
          refine hh.tl 1 ⟨some 80, Op.nilCheck (.tmp 79), _, _, _, _⟩ ?v2 rfl ?hy2 ?_
          case hy2 => ((intro w0 hSw; go_simp); try (with_reducible rfl))
          try simp only [lay]
          refine hh.tl 2 ⟨some 81, Op.fieldAddr 61 (.tmp 80) 2, _, _, _, _⟩ ?v3 rfl ?hy3 ?_
          case hy3 => ((intro w0 hSw; go_simp); try (with_reducible rfl))
          try simp only [lay]
          refine hh.tl 3 ⟨some 82, Op.load 59 (.tmp 81), _, _, _, _⟩ ?v4 rfl ?hy4 ?_
          case hy4 => ((intro w0 hSw; obtain ⟨hs1, hq2⟩ := hSw; obtain ⟨_, hs2, _, hs3, _⟩ := note_cells (tt.range_of hq2); rw [Nat.zero_add] at hs2 hs3; rw [show (akn a).f = a.co from rfl] at hs2; rw [show (akn a).b = a.b from rfl] at hs3; clear hq2; go_simp); try (with_reducible rfl))
          try simp only [lay]
          refine hh.tl 4 ⟨some 83, Op.fieldAddr 31 (.tmp 12) 1, _, _, _, _⟩ ?v5 rfl ?hy5 ?_
          case hy5 => ((intro w0 hSw; go_simp); try (with_reducible rfl))
          try simp only [lay]
          refine hh.tl 5 ⟨some 84, Op.load 3 (.tmp 83), _, _, _, _⟩ ?v6 rfl ?hy6 ?_
          case hy6 => ((intro w0 hSw; obtain ⟨hs1, hq2⟩ := hSw; obtain ⟨_, hs2, _, hs3, _⟩ := note_cells (tt.range_of hq2); rw [Nat.zero_add] at hs2 hs3; rw [show (akn a).f = a.co from rfl] at hs2; rw [show (akn a).b = a.b from rfl] at hs3; clear hq2; go_simp); try (with_reducible rfl))
          try simp only [lay]
          refine hh.tl 6 ⟨some 85, Op.fieldAddr 31 (.tmp 12) 3, _, _, _, _⟩ ?v7 rfl ?hy7 ?_
          case hy7 => ((intro w0 hSw; go_simp); try (with_reducible rfl))
          try simp only [lay]
          refine hh.tl 7 ⟨some 86, Op.load 3 (.tmp 85), _, _, _, _⟩ ?v8 rfl ?hy8 ?_
          case hy8 => ((intro w0 hSw; obtain ⟨hs1, hq2⟩ := hSw; obtain ⟨_, hs2, _, hs3, _⟩ := note_cells (tt.range_of hq2); rw [Nat.zero_add] at hs2 hs3; rw [show (akn a).f = a.co from rfl] at hs2; rw [show (akn a).b = a.b from rfl] at hs3; clear hq2; go_simp); try (with_reducible rfl))
          try simp only [lay]
          refine hh.tl 8 ⟨some 87, Op.build 65 #[(0, (.tmp 84)), (1, (.tmp 86))], _, _, _, _⟩ ?v9 rfl ?hy9 ?_
          case hy9 => ((intro w0 hSw; go_simp); try (with_reducible rfl))
          try simp only [lay]
          refine wpAnyH_ready (rs := [9, 11]) (by kernel_rfl) (by simp) ?_
          refine AllReadyH.cons (o := ⟨some 88, Op.lookup 59 (.tmp 82) (.tmp 87) false, _, _, _, _⟩) rfl (fun K hK => ?_) (AllReadyH.cons (o := ⟨some 90, Op.mapEntry 59 (.tmp 82) (.tmp 87), _, _, _, _⟩) rfl (fun K hK => ?_) AllReadyH.nil)
          · skip
            go_simp
            refine hK.out _ _ HQ5.out (fun hHeld => ?_)
            clear hK K
            try simp only [lay]
            refine hh.tl 10 ⟨some 89, Op.binOp BinOp.add 3 (.tmp 88) (.const (Value.int IntKind.i64 1)) _, _, _, _, _⟩ ?v10 rfl ?hy10 ?_
            case hy10 => ((intro w0 hSw; go_simp); try (with_reducible rfl))
            try simp only [lay]
            refine rdo (i := 11) (o := ⟨some 90, Op.mapEntry 59 (.tmp 82) (.tmp 87), _, _, _, _⟩) rfl (fun K hK => ?_)
            go_simp
            refine hK.out _ _ HS6.out (fun hHeld => ?_)
            clear hK K
            try simp only [lay]
            refine hh.tl 12 ⟨some 91, Op.extract (.tmp 90) 1, _, _, _, _⟩ ?v11 rfl ?hy11 ?_
            case hy11 => ((intro w0 hSw; go_simp); try (with_reducible rfl))
            try simp only [lay]
            refine rdo (i := 13) (o := ⟨none, Op.entryStore 59 (.tmp 82) (.tmp 91) (.tmp 89), _, _, _, _⟩) rfl (fun K hK => ?_)
            go_simp
            refine hK.out _ _ HS7.out (fun hHeld => ?_)
            clear hK K
            try simp only [lay]
            refine wpAnyH_done (by kernel_rfl) ?_ _
            clear hHeld hme hes hlk5 hlk6 hwy
            have HO9 := qh (HO7.out.mv HK7.out HM9.out)
            have HS9 := qh (HM9.out.sl HK7.out HS7'.out HV7.out)
            have HSN := qh (flo_sends HLM.out (by omega) a HRD.out HN0.out HO9.out HK9.out HS9.out.1 HS9.out.2)
            have y4 := cr HA9.out 4 rfl
            obtain ⟨qx, hqx⟩ : ∃ q, q = (way ++ ways a.r (take c H1 (akn a)).2.1).length := ⟨_, rfl⟩
            have HQX := qh hqx
            clear hqx
            by_cases hq0 : 0 < qx
            · have hqd : decide (0 < qx) = true := by simpa using hq0
              go_wp2_with (first
                | (go_at_call 24; ((with_reducible refine HSN.out.mono ?_); rintro e wx ⟨⟨u9, rfl⟩, v9, C9, hl9, hm9⟩; have HLX := qh hl9; have HAX : Hid (wx.heap[BA]? = some (.cells #[.int .u8 a.k, .int .i64 a.co, .int .i64 a.b, .int .i64 a.p, .bool a.r] 63 (0, 0))) := qh ((hm9.block _ (lt_of HA9.out) (tyne HA9.out HK9.out.blk (by decide)) (fun e => by obtain ⟨es, ck, h1, _⟩ := HK9.out.due; have h2 := HA9.out; rw [e, h1] at h2; cases h2) (fun e => by obtain ⟨es, ck, h1, _⟩ := HK9.out.cam; have h2 := HA9.out; rw [e, h1] at h2; cases h2) (fun e => by obtain ⟨cur, hc⟩ := HK9.out.sl.type _ e.symm; exact tyne HA9.out hc (by decide) rfl)).trans HA9.out); clear hl9 hm9 y4; obtain ⟨adx, capx, hvx⟩ := HLX.out.fl.sl.form; rw [← HQX.out] at hvx; have hcx : wx.cell? ⟨fb, 1, none⟩ = some (.slice adx qx capx) := (cr HLX.out.fl.blk 1 rfl).trans (by rw [hvx]; rfl); clear hvx; have x0 := cr HAX.out 0 rfl; have x1 := cr HAX.out 1 rfl; have x2 := cr HAX.out 2 rfl; have x3 := cr HAX.out 3 rfl; have x4 := cr HAX.out 4 rfl; have HON := qh (flo_one HT.out HLX.out (fun e => by have := HQX.out; rw [e] at this; simp at this; omega) (by omega) a.k a.co a.b a.p a.r)))
                | (go_at_call 25; ((with_reducible refine HON.out.mono ?_); rintro e wo ⟨rfl, Fo, Ho, vo, wyo, Co, hlo, hpo⟩; have HLO := qh hlo; clear hlo hcx x0 x1 x2 x3 x4)))
              go_roundw
              case rel => exact ⟨j + 1, Fo, Ho, vo, wyo, _, Co, by omega, by go_num, HLO.out.more (by omega) (by omega) (by omega)⟩
              case measure => simp [intOf]; omega
            · have hqd : decide (0 < qx) = false := by simpa using hq0
              go_wp2_with (first
                | (go_at_call 24; ((with_reducible refine HSN.out.mono ?_); rintro e wx ⟨⟨u9, rfl⟩, v9, C9, hl9, hm9⟩; have HLX := qh hl9; have HAX : Hid (wx.heap[BA]? = some (.cells #[.int .u8 a.k, .int .i64 a.co, .int .i64 a.b, .int .i64 a.p, .bool a.r] 63 (0, 0))) := qh ((hm9.block _ (lt_of HA9.out) (tyne HA9.out HK9.out.blk (by decide)) (fun e => by obtain ⟨es, ck, h1, _⟩ := HK9.out.due; have h2 := HA9.out; rw [e, h1] at h2; cases h2) (fun e => by obtain ⟨es, ck, h1, _⟩ := HK9.out.cam; have h2 := HA9.out; rw [e, h1] at h2; cases h2) (fun e => by obtain ⟨cur, hc⟩ := HK9.out.sl.type _ e.symm; exact tyne HA9.out hc (by decide) rfl)).trans HA9.out); clear hl9 hm9 y4; obtain ⟨adx, capx, hvx⟩ := HLX.out.fl.sl.form; rw [← HQX.out] at hvx; have hcx : wx.cell? ⟨fb, 1, none⟩ = some (.slice adx qx capx) := (cr HLX.out.fl.blk 1 rfl).trans (by rw [hvx]; rfl); clear hvx)))
              go_roundw
              case rel => exact ⟨j + 1, _, _, _, _, _, _, by omega, by go_num, HLX.out.more (by omega) (by omega) (by omega)⟩
              case measure => simp [intOf]; omega
          · skip
            go_simp
            refine hK.out _ _ HS6.out (fun hHeld => ?_)
            clear hK K
            try simp only [lay]
            refine hh.tl 12 ⟨some 91, Op.extract (.tmp 90) 1, _, _, _, _⟩ ?v12 rfl ?hy12 ?_
            case hy12 => ((intro w0 hSw; go_simp); try (with_reducible rfl))
            try simp only [lay]
            refine rdo (i := 9) (o := ⟨some 88, Op.lookup 59 (.tmp 82) (.tmp 87) false, _, _, _, _⟩) rfl (fun K hK => ?_)
            go_simp
            refine hK.out _ _ HS6.out (fun hHeld => ?_)
            clear hK K
            try simp only [lay]
            refine hh.tl 10 ⟨some 89, Op.binOp BinOp.add 3 (.tmp 88) (.const (Value.int IntKind.i64 1)) _, _, _, _, _⟩ ?v13 rfl ?hy13 ?_
            case hy13 => ((intro w0 hSw; go_simp); try (with_reducible rfl))
            try simp only [lay]
            refine rdo (i := 13) (o := ⟨none, Op.entryStore 59 (.tmp 82) (.tmp 91) (.tmp 89), _, _, _, _⟩) rfl (fun K hK => ?_)
            go_simp
            refine hK.out _ _ HS7.out (fun hHeld => ?_)
            clear hK K
            try simp only [lay]
            refine wpAnyH_done (by kernel_rfl) ?_ _
            clear hHeld hme hes hlk5 hlk6 hwy
            have HO9 := qh (HO7.out.mv HK7.out HM9.out)
            have HS9 := qh (HM9.out.sl HK7.out HS7'.out HV7.out)
            have HSN := qh (flo_sends HLM.out (by omega) a HRD.out HN0.out HO9.out HK9.out HS9.out.1 HS9.out.2)
            have y4 := cr HA9.out 4 rfl
            obtain ⟨qx, hqx⟩ : ∃ q, q = (way ++ ways a.r (take c H1 (akn a)).2.1).length := ⟨_, rfl⟩
            have HQX := qh hqx
            clear hqx
            by_cases hq0 : 0 < qx
            · have hqd : decide (0 < qx) = true := by simpa using hq0
              go_wp2_with (first
                | (go_at_call 24; ((with_reducible refine HSN.out.mono ?_); rintro e wx ⟨⟨u9, rfl⟩, v9, C9, hl9, hm9⟩; have HLX := qh hl9; have HAX : Hid (wx.heap[BA]? = some (.cells #[.int .u8 a.k, .int .i64 a.co, .int .i64 a.b, .int .i64 a.p, .bool a.r] 63 (0, 0))) := qh ((hm9.block _ (lt_of HA9.out) (tyne HA9.out HK9.out.blk (by decide)) (fun e => by obtain ⟨es, ck, h1, _⟩ := HK9.out.due; have h2 := HA9.out; rw [e, h1] at h2; cases h2) (fun e => by obtain ⟨es, ck, h1, _⟩ := HK9.out.cam; have h2 := HA9.out; rw [e, h1] at h2; cases h2) (fun e => by obtain ⟨cur, hc⟩ := HK9.out.sl.type _ e.symm; exact tyne HA9.out hc (by decide) rfl)).trans HA9.out); clear hl9 hm9 y4; obtain ⟨adx, capx, hvx⟩ := HLX.out.fl.sl.form; rw [← HQX.out] at hvx; have hcx : wx.cell? ⟨fb, 1, none⟩ = some (.slice adx qx capx) := (cr HLX.out.fl.blk 1 rfl).trans (by rw [hvx]; rfl); clear hvx; have x0 := cr HAX.out 0 rfl; have x1 := cr HAX.out 1 rfl; have x2 := cr HAX.out 2 rfl; have x3 := cr HAX.out 3 rfl; have x4 := cr HAX.out 4 rfl; have HON := qh (flo_one HT.out HLX.out (fun e => by have := HQX.out; rw [e] at this; simp at this; omega) (by omega) a.k a.co a.b a.p a.r)))
                | (go_at_call 25; ((with_reducible refine HON.out.mono ?_); rintro e wo ⟨rfl, Fo, Ho, vo, wyo, Co, hlo, hpo⟩; have HLO := qh hlo; clear hlo hcx x0 x1 x2 x3 x4)))
              go_roundw
              case rel => exact ⟨j + 1, Fo, Ho, vo, wyo, _, Co, by omega, by go_num, HLO.out.more (by omega) (by omega) (by omega)⟩
              case measure => simp [intOf]; omega
            · have hqd : decide (0 < qx) = false := by simpa using hq0
              go_wp2_with (first
                | (go_at_call 24; ((with_reducible refine HSN.out.mono ?_); rintro e wx ⟨⟨u9, rfl⟩, v9, C9, hl9, hm9⟩; have HLX := qh hl9; have HAX : Hid (wx.heap[BA]? = some (.cells #[.int .u8 a.k, .int .i64 a.co, .int .i64 a.b, .int .i64 a.p, .bool a.r] 63 (0, 0))) := qh ((hm9.block _ (lt_of HA9.out) (tyne HA9.out HK9.out.blk (by decide)) (fun e => by obtain ⟨es, ck, h1, _⟩ := HK9.out.due; have h2 := HA9.out; rw [e, h1] at h2; cases h2) (fun e => by obtain ⟨es, ck, h1, _⟩ := HK9.out.cam; have h2 := HA9.out; rw [e, h1] at h2; cases h2) (fun e => by obtain ⟨cur, hc⟩ := HK9.out.sl.type _ e.symm; exact tyne HA9.out hc (by decide) rfl)).trans HA9.out); clear hl9 hm9 y4; obtain ⟨adx, capx, hvx⟩ := HLX.out.fl.sl.form; rw [← HQX.out] at hvx; have hcx : wx.cell? ⟨fb, 1, none⟩ = some (.slice adx qx capx) := (cr HLX.out.fl.blk 1 rfl).trans (by rw [hvx]; rfl); clear hvx)))
              go_roundw
              case rel => exact ⟨j + 1, _, _, _, _, _, _, by omega, by go_num, HLX.out.more (by omega) (by omega) (by omega)⟩
              case measure => simp [intOf]; omega
        · have HRD := qh hrd
          clear hrd
          obtain ⟨qx, hqx⟩ : ∃ q, q = (way).length := ⟨_, rfl⟩
          have HQX := qh hqx
          clear hqx
          by_cases hq0 : 0 < qx
          · have hqd : decide (0 < qx) = true := by simpa using hq0
            go_wp2_with (first
              | ((with_reducible refine store_litS _ _ HNB.out _ _ _ (wr.heap.size + 1) ?_ ?_ ?_ ?_ ?_); (rw [World.size_alloc]); (rfl); (rfl); (rfl); obtain ⟨wA, hwA⟩ : ∃ x, wr.alloc (.cells #[.int .u8 a.k, .int .i64 a.co, .int .i64 a.b, .int .i64 a.p, .bool a.r] 63) = x := ⟨_, rfl⟩; obtain ⟨BA, hBA⟩ : ∃ B, wr.heap.size = B := ⟨_, rfl⟩; obtain ⟨wn, hwn⟩ : ∃ x, wA.alloc (.cells (na (bare a.k a.co (-1) a.b 0 0 false false)) 31) = x := ⟨_, rfl⟩; obtain ⟨BN, hBN⟩ : ∃ B, BA + 1 = B := ⟨_, rfl⟩; have hgA : wr.grownBy wA none := (by rw [← hwA]; exact grown_alloc (grown_refl _ _) _); have hgn : wA.grownBy wn none := (by rw [← hwn]; exact grown_alloc (grown_refl _ _) _); have hA0 : wA.heap[BA]? = some (.cells #[.int .u8 a.k, .int .i64 a.co, .int .i64 a.b, .int .i64 a.p, .bool a.r] 63 (0, 0)) := (by rw [← hwA, ← hBA]; exact heap_alloc_new _ _); have HAN := qh (row_up hA0 hgn); have hsA : wA.heap.size = BN := (by rw [← hwA, World.size_alloc]; omega); have HNN : Hid (wn.heap[BN]? = some (.cells (na (bare a.k a.co (-1) a.b 0 0 false false)) 31 (0, 0))) := qh (by rw [← hwn, ← hsA]; exact heap_alloc_new _ _); have HGN := qh (grown_trans hgA hgn); have HBA : Hid (wr.heap.size ≤ BA ∧ BA + 1 = BN) := qh (by omega); have n0 : wn.cell? ⟨BN, 0, none⟩ = some (.int .u8 a.k) := (note_cells (tt.range_of HNN.out)).1;  rw [← HNB.out, hwA, hwn, hBA, hBN]; clear hwA hwn hBA hBN hgA hgn hA0 hsA r0 r1 r2 r3 r4)
              | ((with_reducible refine store_at _ _ 6 BN (.bool true) (bare a.k a.co (-1) a.b 0 0 false false) (akn a) HNN.out ?_ ?_ ?_ ?_ ?_ ?_); (rfl); (kernel_rfl); (rfl); (decide); (exact HK6.out); obtain ⟨wm, hwm⟩ : ∃ x, wn.setRow BN (na (akn a)) = x := ⟨_, rfl⟩; have HGM : Hid (wr.grownBy wm none) := qh (by rw [← hwm]; exact en.grown_setRow HGN.out BN (by have := HBA.out; omega) _); have HNM : Hid (wm.heap[BN]? = some (.cells (na (akn a)) 31 (0, 0))) := qh (by rw [← hwm]; exact setRow_heap _ _ _ _ _ _ HNN.out); have HAM : Hid (wm.heap[BA]? = some (.cells #[.int .u8 a.k, .int .i64 a.co, .int .i64 a.b, .int .i64 a.p, .bool a.r] 63 (0, 0))) := qh (by rw [← hwm]; exact (setRow_other _ _ _ _ (by have := HBA.out; omega)).trans HAN.out); rw [hwm]; have HLM := qh (HL1.out.grown HGM.out); have HFA : Hid (¬ F1.own BA ∧ ¬ F1.own BN) := qh (by have h1 := fun i => HL1.out.own.at'.own_lt (i := i); have := HBA.out; exact ⟨fun e => by have := h1 _ e; omega, fun e => by have := h1 _ e; omega⟩); have n0' : wm.cell? ⟨BN, 0, none⟩ = some (.int .u8 a.k) := (note_cells (tt.range_of HNM.out)).1; clear hwm n0)
              | (go_at_call 23; ((with_reducible refine (HNT.out _).mono ?_); rintro e wq ⟨rfl, hwq⟩; obtain rfl := hwq.symm))
              | ((with_reducible refine tt.load_nt (akn a) _ BN ?_ (tt.range_of HNM.out) ?_); (rfl))
              | (go_at_call 16; ((with_reducible refine (flo_bad HT.out HLM.out a HRD.out).mono ?_); rintro e w7 ⟨F2, v, er, rfl, her, hl7, hD⟩; have HLX := qh hl7; have HAX := qh (hD.heap HAM.out HFA.out.1); have hed : (er == 0) = false := (by simpa using her); clear hl7 hD her; obtain ⟨adx, capx, hvx⟩ := HLX.out.fl.sl.form; rw [← HQX.out] at hvx; have hcx : w7.cell? ⟨fb, 1, none⟩ = some (.slice adx qx capx) := (cr HLX.out.fl.blk 1 rfl).trans (by rw [hvx]; rfl); clear hvx; have x0 := cr HAX.out 0 rfl; have x1 := cr HAX.out 1 rfl; have x2 := cr HAX.out 2 rfl; have x3 := cr HAX.out 3 rfl; have x4 := cr HAX.out 4 rfl; have HON := qh (flo_one HT.out HLX.out (fun e => by have := HQX.out; rw [e] at this; simp at this; omega) (by omega) a.k a.co a.b a.p a.r)))
              | (go_at_call 25; ((with_reducible refine HON.out.mono ?_); rintro e wo ⟨rfl, Fo, Ho, vo, wyo, Co, hlo, hpo⟩; have HLO := qh hlo; clear hlo hcx x0 x1 x2 x3 x4)))
            go_roundw
            case rel => exact ⟨j + 1, Fo, Ho, vo, wyo, _, Co, by omega, by go_num, HLO.out.more (by omega) (by omega) (by omega)⟩
            case measure => simp [intOf]; omega
          · have hqd : decide (0 < qx) = false := by simpa using hq0
            go_wp2_with (first
              | ((with_reducible refine store_litS _ _ HNB.out _ _ _ (wr.heap.size + 1) ?_ ?_ ?_ ?_ ?_); (rw [World.size_alloc]); (rfl); (rfl); (rfl); obtain ⟨wA, hwA⟩ : ∃ x, wr.alloc (.cells #[.int .u8 a.k, .int .i64 a.co, .int .i64 a.b, .int .i64 a.p, .bool a.r] 63) = x := ⟨_, rfl⟩; obtain ⟨BA, hBA⟩ : ∃ B, wr.heap.size = B := ⟨_, rfl⟩; obtain ⟨wn, hwn⟩ : ∃ x, wA.alloc (.cells (na (bare a.k a.co (-1) a.b 0 0 false false)) 31) = x := ⟨_, rfl⟩; obtain ⟨BN, hBN⟩ : ∃ B, BA + 1 = B := ⟨_, rfl⟩; have hgA : wr.grownBy wA none := (by rw [← hwA]; exact grown_alloc (grown_refl _ _) _); have hgn : wA.grownBy wn none := (by rw [← hwn]; exact grown_alloc (grown_refl _ _) _); have hA0 : wA.heap[BA]? = some (.cells #[.int .u8 a.k, .int .i64 a.co, .int .i64 a.b, .int .i64 a.p, .bool a.r] 63 (0, 0)) := (by rw [← hwA, ← hBA]; exact heap_alloc_new _ _); have HAN := qh (row_up hA0 hgn); have hsA : wA.heap.size = BN := (by rw [← hwA, World.size_alloc]; omega); have HNN : Hid (wn.heap[BN]? = some (.cells (na (bare a.k a.co (-1) a.b 0 0 false false)) 31 (0, 0))) := qh (by rw [← hwn, ← hsA]; exact heap_alloc_new _ _); have HGN := qh (grown_trans hgA hgn); have HBA : Hid (wr.heap.size ≤ BA ∧ BA + 1 = BN) := qh (by omega); have n0 : wn.cell? ⟨BN, 0, none⟩ = some (.int .u8 a.k) := (note_cells (tt.range_of HNN.out)).1;  rw [← HNB.out, hwA, hwn, hBA, hBN]; clear hwA hwn hBA hBN hgA hgn hA0 hsA r0 r1 r2 r3 r4)
              | ((with_reducible refine store_at _ _ 6 BN (.bool true) (bare a.k a.co (-1) a.b 0 0 false false) (akn a) HNN.out ?_ ?_ ?_ ?_ ?_ ?_); (rfl); (kernel_rfl); (rfl); (decide); (exact HK6.out); obtain ⟨wm, hwm⟩ : ∃ x, wn.setRow BN (na (akn a)) = x := ⟨_, rfl⟩; have HGM : Hid (wr.grownBy wm none) := qh (by rw [← hwm]; exact en.grown_setRow HGN.out BN (by have := HBA.out; omega) _); have HNM : Hid (wm.heap[BN]? = some (.cells (na (akn a)) 31 (0, 0))) := qh (by rw [← hwm]; exact setRow_heap _ _ _ _ _ _ HNN.out); have HAM : Hid (wm.heap[BA]? = some (.cells #[.int .u8 a.k, .int .i64 a.co, .int .i64 a.b, .int .i64 a.p, .bool a.r] 63 (0, 0))) := qh (by rw [← hwm]; exact (setRow_other _ _ _ _ (by have := HBA.out; omega)).trans HAN.out); rw [hwm]; have HLM := qh (HL1.out.grown HGM.out); have HFA : Hid (¬ F1.own BA ∧ ¬ F1.own BN) := qh (by have h1 := fun i => HL1.out.own.at'.own_lt (i := i); have := HBA.out; exact ⟨fun e => by have := h1 _ e; omega, fun e => by have := h1 _ e; omega⟩); have n0' : wm.cell? ⟨BN, 0, none⟩ = some (.int .u8 a.k) := (note_cells (tt.range_of HNM.out)).1; clear hwm n0)
              | (go_at_call 23; ((with_reducible refine (HNT.out _).mono ?_); rintro e wq ⟨rfl, hwq⟩; obtain rfl := hwq.symm))
              | ((with_reducible refine tt.load_nt (akn a) _ BN ?_ (tt.range_of HNM.out) ?_); (rfl))
              | (go_at_call 16; ((with_reducible refine (flo_bad HT.out HLM.out a HRD.out).mono ?_); rintro e w7 ⟨F2, v, er, rfl, her, hl7, hD⟩; have HLX := qh hl7; have HAX := qh (hD.heap HAM.out HFA.out.1); have hed : (er == 0) = false := (by simpa using her); clear hl7 hD her; obtain ⟨adx, capx, hvx⟩ := HLX.out.fl.sl.form; rw [← HQX.out] at hvx; have hcx : w7.cell? ⟨fb, 1, none⟩ = some (.slice adx qx capx) := (cr HLX.out.fl.blk 1 rfl).trans (by rw [hvx]; rfl); clear hvx)))
            go_roundw
            case rel => exact ⟨j + 1, _, _, _, _, _, _, by omega, by go_num, HLX.out.more (by omega) (by omega) (by omega)⟩
            case measure => simp [intOf]; omega
      · have hk3' : (a.k == 3) = false := by simpa using hk3
        have HKD : Hid (decide (a.k = 3) = false) := qh (decide_eq_false hk3)
        have HAKN : Hid (bare a.k a.co (-1) a.b 0 0 false false = akn a) := qh (by unfold akn; rw [HKD.out])
        clear hk3
        by_cases hn0 : net a.k = 0
        · rw [hn0] at HNT
          have HN0 := qh hn0
          clear hn0
          by_cases hrd : ready c H1 (akn a) = 0
          · have HRD := qh hrd
            clear hrd
            have hwf := ask_wf HRD.out HL1.out.own.at'.inv HN0.out
            have HWA : Hid ((Lit.int .i64 a.co).wf = true) := qh (WalkArith.wf_i64 (by omega))
            have HWB : Hid (0 ≤ a.b ∧ (Lit.int .i64 a.b).wf = true) := qh ⟨by omega, WalkArith.wf_i64 (by omega)⟩
            clear hwf
            go_wp2_with (first
              | ((with_reducible refine store_litS _ _ HNB.out _ _ _ (wr.heap.size + 1) ?_ ?_ ?_ ?_ ?_); (rw [World.size_alloc]); (rfl); (rfl); (rfl); obtain ⟨wA, hwA⟩ : ∃ x, wr.alloc (.cells #[.int .u8 a.k, .int .i64 a.co, .int .i64 a.b, .int .i64 a.p, .bool a.r] 63) = x := ⟨_, rfl⟩; obtain ⟨BA, hBA⟩ : ∃ B, wr.heap.size = B := ⟨_, rfl⟩; obtain ⟨wn, hwn⟩ : ∃ x, wA.alloc (.cells (na (bare a.k a.co (-1) a.b 0 0 false false)) 31) = x := ⟨_, rfl⟩; obtain ⟨BN, hBN⟩ : ∃ B, BA + 1 = B := ⟨_, rfl⟩; have hgA : wr.grownBy wA none := (by rw [← hwA]; exact grown_alloc (grown_refl _ _) _); have hgn : wA.grownBy wn none := (by rw [← hwn]; exact grown_alloc (grown_refl _ _) _); have hA0 : wA.heap[BA]? = some (.cells #[.int .u8 a.k, .int .i64 a.co, .int .i64 a.b, .int .i64 a.p, .bool a.r] 63 (0, 0)) := (by rw [← hwA, ← hBA]; exact heap_alloc_new _ _); have HAN := qh (row_up hA0 hgn); have hsA : wA.heap.size = BN := (by rw [← hwA, World.size_alloc]; omega); have HNN : Hid (wn.heap[BN]? = some (.cells (na (bare a.k a.co (-1) a.b 0 0 false false)) 31 (0, 0))) := qh (by rw [← hwn, ← hsA]; exact heap_alloc_new _ _); have HGN := qh (grown_trans hgA hgn); have HBA : Hid (wr.heap.size ≤ BA ∧ BA + 1 = BN) := qh (by omega); have n0 : wn.cell? ⟨BN, 0, none⟩ = some (.int .u8 a.k) := (note_cells (tt.range_of HNN.out)).1;  rw [← HNB.out, hwA, hwn, hBA, hBN]; rw [HAKN.out] at HNN; obtain ⟨wm, hwm⟩ : ∃ x, wn = x := ⟨_, rfl⟩; rw [hwm] at HNN HAN HGN n0 ⊢; have HNM := HNN; have HAM := HAN; have HGM := HGN; have HLM := qh (HL1.out.grown HGM.out); have HFA : Hid (¬ F1.own BA ∧ ¬ F1.own BN) := qh (by have h1 := fun i => HL1.out.own.at'.own_lt (i := i); have := HBA.out; exact ⟨fun e => by have := h1 _ e; omega, fun e => by have := h1 _ e; omega⟩); clear hwm hwA hwn hBA hBN hgA hgn hA0 hsA r0 r1 r2 r3 r4)
              | (go_at_call 23; ((with_reducible refine (HNT.out _).mono ?_); rintro e wq ⟨rfl, hwq⟩; obtain rfl := hwq.symm))
              | ((with_reducible refine tt.load_nt (akn a) _ BN ?_ (tt.range_of HNM.out) ?_); (rfl))
              | (go_at_call 16; ((with_reducible refine (flo_good HT.out HLM.out a HRD.out HN0.out).mono ?_); rintro e w7 ⟨F2, v, rfl, ho, hk, hS, hv, hD⟩; have HO7 := qh ho; have HK7 := qh hk; have HS7' := qh hS; have HV7 := qh hv; have HN7 := qh (hD.heap HNM.out HFA.out.2); have HA7 := qh (hD.heap HAM.out HFA.out.1); obtain ⟨adv, capv, hfv⟩ := hS.form; obtain ⟨lo, hlo⟩ : ∃ m, m = (take c H1 (akn a)).2.1.length := ⟨_, rfl⟩; rw [← hlo] at hfv; clear hlo; subst hfv; clear ho hk hS hv hD)))
            have HLQ := qh (HK7.out.grown (tt.grown_drew (grown_refl _ none)))
            have HBQ : Hid (w7.drew.heap[BN]? = some (.cells (na (akn a)) 31 (0, 0)) ∧ w7.drew.heap[BA]? = some (.cells #[.int .u8 a.k, .int .i64 a.co, .int .i64 a.b, .int .i64 a.p, .bool a.r] 63 (0, 0))) := qh ⟨HN7.out, HA7.out⟩
            have HGQ : Hid (w7.grownBy w7.drew none) := qh (tt.grown_drew (grown_refl _ _))
            refine wp_region_held_drew (S := fun w' => w'.cell? ⟨fb, 2, none⟩ = some (.map (some qd)) ∧ w'.heap[BN]? = some (.cells (na (akn a)) 31 (0, 0))) (by kernel_rfl) ⟨cr HLQ.out.blk 2 rfl, HBQ.out.1⟩ (fun hHeld => ?_)
            generalize w7.drew = wq at hHeld HLQ HBQ HGQ ⊢
            obtain ⟨c0, st, w8, hme, hq6, hg6, hst⟩ := count_q HLQ.out.due a.co a.b HWB.out.1 HWA.out HWB.out.2
            have hwy : IntKind.i64.wrap (D a.co a.b + 1) = D a.co a.b + 1 := IntWalk.i64_in _ (by have := HL1.out.d' a.co a.b; omega)
            obtain ⟨w9, hes, hq7, hg7⟩ := hst (D a.co a.b + 1)
            have hlk5 := lookup_q HLQ.out.due a.co a.b HWA.out HWB.out.2
            have hlk6 := lookup_q hq6 a.co a.b HWA.out HWB.out.2
            have hl6 := (HLQ.out.setD hq6 hg6).1
            have hg67 : wq.grownBy w9 (some qd) := grown_trans hg6 hg7
            obtain ⟨hl7, hm7⟩ := HLQ.out.setD hq7 hg67
            have hbx : ∀ {i : Nat} {cs : Array Value} {t : TypeId} (w' : World), wq.grownBy w' (some qd) → wq.heap[i]? = some (.cells cs t (0, 0)) → w'.heap[i]? = some (.cells cs t (0, 0)) := fun w' hg h9 => (hg.block _ (lt_of h9) (fun e => by obtain ⟨es, ck, h1, _⟩ := HLQ.out.due; rw [Option.some.inj e] at h9; rw [h1] at h9; cases h9)).trans h9
            have HS6 : Hid (w8.cell? ⟨fb, 2, none⟩ = some (.map (some qd)) ∧ w8.heap[BN]? = some (.cells (na (akn a)) 31 (0, 0))) := qh ⟨cr hl6.blk 2 rfl, hbx w8 hg6 HBQ.out.1⟩
            have HS7 : Hid (w9.cell? ⟨fb, 2, none⟩ = some (.map (some qd)) ∧ w9.heap[BN]? = some (.cells (na (akn a)) 31 (0, 0))) := qh ⟨cr hl7.blk 2 rfl, hbx w9 hg67 HBQ.out.1⟩
            have HA9 := qh (hbx w9 hg67 HBQ.out.2)
            have HK9 := qh hl7
            have HM9 : Hid (Mv w7 w9 fb qd qc vw vw) := qh ((Mv.of_grown _ _ _ _ HGQ.out).trans hm7)
            have HQ5 : Hid _ := qh hHeld
            clear hst hq6 hq7 hg6 hg7 hl6 hl7 hm7 hg67 hbx
            refine hh.tl 0 ⟨some 79, Op.move (.tmp 9), _, _, _, _⟩ ?v14 rfl ?hy14 ?_
            case hy14 => ((intro w0 hSw; go_simp); try (with_reducible rfl))
            try simp only [lay]
            refine hh.tl 1 ⟨some 80, Op.nilCheck (.tmp 79), _, _, _, _⟩ ?v15 rfl ?hy15 ?_
            case hy15 => ((intro w0 hSw; go_simp); try (with_reducible rfl))
            try simp only [lay]
            refine hh.tl 2 ⟨some 81, Op.fieldAddr 61 (.tmp 80) 2, _, _, _, _⟩ ?v16 rfl ?hy16 ?_
            case hy16 => ((intro w0 hSw; go_simp); try (with_reducible rfl))
            try simp only [lay]
            refine hh.tl 3 ⟨some 82, Op.load 59 (.tmp 81), _, _, _, _⟩ ?v17 rfl ?hy17 ?_
            case hy17 => ((intro w0 hSw; obtain ⟨hs1, hq2⟩ := hSw; obtain ⟨_, hs2, _, hs3, _⟩ := note_cells (tt.range_of hq2); rw [Nat.zero_add] at hs2 hs3; rw [show (akn a).f = a.co from rfl] at hs2; rw [show (akn a).b = a.b from rfl] at hs3; clear hq2; go_simp); try (with_reducible rfl))
            try simp only [lay]
            refine hh.tl 4 ⟨some 83, Op.fieldAddr 31 (.tmp 12) 1, _, _, _, _⟩ ?v18 rfl ?hy18 ?_
            case hy18 => ((intro w0 hSw; go_simp); try (with_reducible rfl))
            try simp only [lay]
            refine hh.tl 5 ⟨some 84, Op.load 3 (.tmp 83), _, _, _, _⟩ ?v19 rfl ?hy19 ?_
            case hy19 => ((intro w0 hSw; obtain ⟨hs1, hq2⟩ := hSw; obtain ⟨_, hs2, _, hs3, _⟩ := note_cells (tt.range_of hq2); rw [Nat.zero_add] at hs2 hs3; rw [show (akn a).f = a.co from rfl] at hs2; rw [show (akn a).b = a.b from rfl] at hs3; clear hq2; go_simp); try (with_reducible rfl))
            try simp only [lay]
            refine hh.tl 6 ⟨some 85, Op.fieldAddr 31 (.tmp 12) 3, _, _, _, _⟩ ?v20 rfl ?hy20 ?_
            case hy20 => ((intro w0 hSw; go_simp); try (with_reducible rfl))
            try simp only [lay]
            refine hh.tl 7 ⟨some 86, Op.load 3 (.tmp 85), _, _, _, _⟩ ?v21 rfl ?hy21 ?_
            case hy21 => ((intro w0 hSw; obtain ⟨hs1, hq2⟩ := hSw; obtain ⟨_, hs2, _, hs3, _⟩ := note_cells (tt.range_of hq2); rw [Nat.zero_add] at hs2 hs3; rw [show (akn a).f = a.co from rfl] at hs2; rw [show (akn a).b = a.b from rfl] at hs3; clear hq2; go_simp); try (with_reducible rfl))
            try simp only [lay]
            refine hh.tl 8 ⟨some 87, Op.build 65 #[(0, (.tmp 84)), (1, (.tmp 86))], _, _, _, _⟩ ?v22 rfl ?hy22 ?_
            case hy22 => ((intro w0 hSw; go_simp); try (with_reducible rfl))
            try simp only [lay]
            refine wpAnyH_ready (rs := [9, 11]) (by kernel_rfl) (by simp) ?_
            refine AllReadyH.cons (o := ⟨some 88, Op.lookup 59 (.tmp 82) (.tmp 87) false, _, _, _, _⟩) rfl (fun K hK => ?_) (AllReadyH.cons (o := ⟨some 90, Op.mapEntry 59 (.tmp 82) (.tmp 87), _, _, _, _⟩) rfl (fun K hK => ?_) AllReadyH.nil)
            · skip
              go_simp
              refine hK.out _ _ HQ5.out (fun hHeld => ?_)
              clear hK K
              try simp only [lay]
              refine hh.tl 10 ⟨some 89, Op.binOp BinOp.add 3 (.tmp 88) (.const (Value.int IntKind.i64 1)) _, _, _, _, _⟩ ?v23 rfl ?hy23 ?_
              case hy23 => ((intro w0 hSw; go_simp); try (with_reducible rfl))
              try simp only [lay]
              refine rdo (i := 11) (o := ⟨some 90, Op.mapEntry 59 (.tmp 82) (.tmp 87), _, _, _, _⟩) rfl (fun K hK => ?_)
              go_simp
              refine hK.out _ _ HS6.out (fun hHeld => ?_)
              clear hK K
              try simp only [lay]
              refine hh.tl 12 ⟨some 91, Op.extract (.tmp 90) 1, _, _, _, _⟩ ?v24 rfl ?hy24 ?_
              case hy24 => ((intro w0 hSw; go_simp); try (with_reducible rfl))
              try simp only [lay]
              refine rdo (i := 13) (o := ⟨none, Op.entryStore 59 (.tmp 82) (.tmp 91) (.tmp 89), _, _, _, _⟩) rfl (fun K hK => ?_)
              go_simp
              refine hK.out _ _ HS7.out (fun hHeld => ?_)
              clear hK K
              try simp only [lay]
              refine wpAnyH_done (by kernel_rfl) ?_ _
              clear hHeld hme hes hlk5 hlk6 hwy
              have HO9 := qh (HO7.out.mv HK7.out HM9.out)
              have HS9 := qh (HM9.out.sl HK7.out HS7'.out HV7.out)
              have HSN := qh (flo_sends HLM.out (by omega) a HRD.out HN0.out HO9.out HK9.out HS9.out.1 HS9.out.2)
              have y4 := cr HA9.out 4 rfl
              obtain ⟨qx, hqx⟩ : ∃ q, q = (way ++ ways a.r (take c H1 (akn a)).2.1).length := ⟨_, rfl⟩
              have HQX := qh hqx
              clear hqx
              by_cases hq0 : 0 < qx
              · have hqd : decide (0 < qx) = true := by simpa using hq0
                go_wp2_with (first
                  | (go_at_call 24; ((with_reducible refine HSN.out.mono ?_); rintro e wx ⟨⟨u9, rfl⟩, v9, C9, hl9, hm9⟩; have HLX := qh hl9; have HAX : Hid (wx.heap[BA]? = some (.cells #[.int .u8 a.k, .int .i64 a.co, .int .i64 a.b, .int .i64 a.p, .bool a.r] 63 (0, 0))) := qh ((hm9.block _ (lt_of HA9.out) (tyne HA9.out HK9.out.blk (by decide)) (fun e => by obtain ⟨es, ck, h1, _⟩ := HK9.out.due; have h2 := HA9.out; rw [e, h1] at h2; cases h2) (fun e => by obtain ⟨es, ck, h1, _⟩ := HK9.out.cam; have h2 := HA9.out; rw [e, h1] at h2; cases h2) (fun e => by obtain ⟨cur, hc⟩ := HK9.out.sl.type _ e.symm; exact tyne HA9.out hc (by decide) rfl)).trans HA9.out); clear hl9 hm9 y4; obtain ⟨adx, capx, hvx⟩ := HLX.out.fl.sl.form; rw [← HQX.out] at hvx; have hcx : wx.cell? ⟨fb, 1, none⟩ = some (.slice adx qx capx) := (cr HLX.out.fl.blk 1 rfl).trans (by rw [hvx]; rfl); clear hvx; have x0 := cr HAX.out 0 rfl; have x1 := cr HAX.out 1 rfl; have x2 := cr HAX.out 2 rfl; have x3 := cr HAX.out 3 rfl; have x4 := cr HAX.out 4 rfl; have HON := qh (flo_one HT.out HLX.out (fun e => by have := HQX.out; rw [e] at this; simp at this; omega) (by omega) a.k a.co a.b a.p a.r)))
                  | (go_at_call 25; ((with_reducible refine HON.out.mono ?_); rintro e wo ⟨rfl, Fo, Ho, vo, wyo, Co, hlo, hpo⟩; have HLO := qh hlo; clear hlo hcx x0 x1 x2 x3 x4)))
                go_roundw
                case rel => exact ⟨j + 1, Fo, Ho, vo, wyo, _, Co, by omega, by go_num, HLO.out.more (by omega) (by omega) (by omega)⟩
                case measure => simp [intOf]; omega
              · have hqd : decide (0 < qx) = false := by simpa using hq0
                go_wp2_with (first
                  | (go_at_call 24; ((with_reducible refine HSN.out.mono ?_); rintro e wx ⟨⟨u9, rfl⟩, v9, C9, hl9, hm9⟩; have HLX := qh hl9; have HAX : Hid (wx.heap[BA]? = some (.cells #[.int .u8 a.k, .int .i64 a.co, .int .i64 a.b, .int .i64 a.p, .bool a.r] 63 (0, 0))) := qh ((hm9.block _ (lt_of HA9.out) (tyne HA9.out HK9.out.blk (by decide)) (fun e => by obtain ⟨es, ck, h1, _⟩ := HK9.out.due; have h2 := HA9.out; rw [e, h1] at h2; cases h2) (fun e => by obtain ⟨es, ck, h1, _⟩ := HK9.out.cam; have h2 := HA9.out; rw [e, h1] at h2; cases h2) (fun e => by obtain ⟨cur, hc⟩ := HK9.out.sl.type _ e.symm; exact tyne HA9.out hc (by decide) rfl)).trans HA9.out); clear hl9 hm9 y4; obtain ⟨adx, capx, hvx⟩ := HLX.out.fl.sl.form; rw [← HQX.out] at hvx; have hcx : wx.cell? ⟨fb, 1, none⟩ = some (.slice adx qx capx) := (cr HLX.out.fl.blk 1 rfl).trans (by rw [hvx]; rfl); clear hvx)))
                go_roundw
                case rel => exact ⟨j + 1, _, _, _, _, _, _, by omega, by go_num, HLX.out.more (by omega) (by omega) (by omega)⟩
                case measure => simp [intOf]; omega
            · skip
              go_simp
              refine hK.out _ _ HS6.out (fun hHeld => ?_)
              clear hK K
              try simp only [lay]
              refine hh.tl 12 ⟨some 91, Op.extract (.tmp 90) 1, _, _, _, _⟩ ?v25 rfl ?hy25 ?_
              case hy25 => ((intro w0 hSw; go_simp); try (with_reducible rfl))
              try simp only [lay]
              refine rdo (i := 9) (o := ⟨some 88, Op.lookup 59 (.tmp 82) (.tmp 87) false, _, _, _, _⟩) rfl (fun K hK => ?_)
              go_simp
              refine hK.out _ _ HS6.out (fun hHeld => ?_)
              clear hK K
              try simp only [lay]
              refine hh.tl 10 ⟨some 89, Op.binOp BinOp.add 3 (.tmp 88) (.const (Value.int IntKind.i64 1)) _, _, _, _, _⟩ ?v26 rfl ?hy26 ?_
              case hy26 => ((intro w0 hSw; go_simp); try (with_reducible rfl))
              try simp only [lay]
              refine rdo (i := 13) (o := ⟨none, Op.entryStore 59 (.tmp 82) (.tmp 91) (.tmp 89), _, _, _, _⟩) rfl (fun K hK => ?_)
              go_simp
              refine hK.out _ _ HS7.out (fun hHeld => ?_)
              clear hK K
              try simp only [lay]
              refine wpAnyH_done (by kernel_rfl) ?_ _
              clear hHeld hme hes hlk5 hlk6 hwy
              have HO9 := qh (HO7.out.mv HK7.out HM9.out)
              have HS9 := qh (HM9.out.sl HK7.out HS7'.out HV7.out)
              have HSN := qh (flo_sends HLM.out (by omega) a HRD.out HN0.out HO9.out HK9.out HS9.out.1 HS9.out.2)
              have y4 := cr HA9.out 4 rfl
              obtain ⟨qx, hqx⟩ : ∃ q, q = (way ++ ways a.r (take c H1 (akn a)).2.1).length := ⟨_, rfl⟩
              have HQX := qh hqx
              clear hqx
              by_cases hq0 : 0 < qx
              · have hqd : decide (0 < qx) = true := by simpa using hq0
                go_wp2_with (first
                  | (go_at_call 24; ((with_reducible refine HSN.out.mono ?_); rintro e wx ⟨⟨u9, rfl⟩, v9, C9, hl9, hm9⟩; have HLX := qh hl9; have HAX : Hid (wx.heap[BA]? = some (.cells #[.int .u8 a.k, .int .i64 a.co, .int .i64 a.b, .int .i64 a.p, .bool a.r] 63 (0, 0))) := qh ((hm9.block _ (lt_of HA9.out) (tyne HA9.out HK9.out.blk (by decide)) (fun e => by obtain ⟨es, ck, h1, _⟩ := HK9.out.due; have h2 := HA9.out; rw [e, h1] at h2; cases h2) (fun e => by obtain ⟨es, ck, h1, _⟩ := HK9.out.cam; have h2 := HA9.out; rw [e, h1] at h2; cases h2) (fun e => by obtain ⟨cur, hc⟩ := HK9.out.sl.type _ e.symm; exact tyne HA9.out hc (by decide) rfl)).trans HA9.out); clear hl9 hm9 y4; obtain ⟨adx, capx, hvx⟩ := HLX.out.fl.sl.form; rw [← HQX.out] at hvx; have hcx : wx.cell? ⟨fb, 1, none⟩ = some (.slice adx qx capx) := (cr HLX.out.fl.blk 1 rfl).trans (by rw [hvx]; rfl); clear hvx; have x0 := cr HAX.out 0 rfl; have x1 := cr HAX.out 1 rfl; have x2 := cr HAX.out 2 rfl; have x3 := cr HAX.out 3 rfl; have x4 := cr HAX.out 4 rfl; have HON := qh (flo_one HT.out HLX.out (fun e => by have := HQX.out; rw [e] at this; simp at this; omega) (by omega) a.k a.co a.b a.p a.r)))
                  | (go_at_call 25; ((with_reducible refine HON.out.mono ?_); rintro e wo ⟨rfl, Fo, Ho, vo, wyo, Co, hlo, hpo⟩; have HLO := qh hlo; clear hlo hcx x0 x1 x2 x3 x4)))
                go_roundw
                case rel => exact ⟨j + 1, Fo, Ho, vo, wyo, _, Co, by omega, by go_num, HLO.out.more (by omega) (by omega) (by omega)⟩
                case measure => simp [intOf]; omega
              · have hqd : decide (0 < qx) = false := by simpa using hq0
                go_wp2_with (first
                  | (go_at_call 24; ((with_reducible refine HSN.out.mono ?_); rintro e wx ⟨⟨u9, rfl⟩, v9, C9, hl9, hm9⟩; have HLX := qh hl9; have HAX : Hid (wx.heap[BA]? = some (.cells #[.int .u8 a.k, .int .i64 a.co, .int .i64 a.b, .int .i64 a.p, .bool a.r] 63 (0, 0))) := qh ((hm9.block _ (lt_of HA9.out) (tyne HA9.out HK9.out.blk (by decide)) (fun e => by obtain ⟨es, ck, h1, _⟩ := HK9.out.due; have h2 := HA9.out; rw [e, h1] at h2; cases h2) (fun e => by obtain ⟨es, ck, h1, _⟩ := HK9.out.cam; have h2 := HA9.out; rw [e, h1] at h2; cases h2) (fun e => by obtain ⟨cur, hc⟩ := HK9.out.sl.type _ e.symm; exact tyne HA9.out hc (by decide) rfl)).trans HA9.out); clear hl9 hm9 y4; obtain ⟨adx, capx, hvx⟩ := HLX.out.fl.sl.form; rw [← HQX.out] at hvx; have hcx : wx.cell? ⟨fb, 1, none⟩ = some (.slice adx qx capx) := (cr HLX.out.fl.blk 1 rfl).trans (by rw [hvx]; rfl); clear hvx)))
                go_roundw
                case rel => exact ⟨j + 1, _, _, _, _, _, _, by omega, by go_num, HLX.out.more (by omega) (by omega) (by omega)⟩
                case measure => simp [intOf]; omega
          · have HRD := qh hrd
            clear hrd
            obtain ⟨qx, hqx⟩ : ∃ q, q = (way).length := ⟨_, rfl⟩
            have HQX := qh hqx
            clear hqx
            by_cases hq0 : 0 < qx
            · have hqd : decide (0 < qx) = true := by simpa using hq0
              go_wp2_with (first
                | ((with_reducible refine store_litS _ _ HNB.out _ _ _ (wr.heap.size + 1) ?_ ?_ ?_ ?_ ?_); (rw [World.size_alloc]); (rfl); (rfl); (rfl); obtain ⟨wA, hwA⟩ : ∃ x, wr.alloc (.cells #[.int .u8 a.k, .int .i64 a.co, .int .i64 a.b, .int .i64 a.p, .bool a.r] 63) = x := ⟨_, rfl⟩; obtain ⟨BA, hBA⟩ : ∃ B, wr.heap.size = B := ⟨_, rfl⟩; obtain ⟨wn, hwn⟩ : ∃ x, wA.alloc (.cells (na (bare a.k a.co (-1) a.b 0 0 false false)) 31) = x := ⟨_, rfl⟩; obtain ⟨BN, hBN⟩ : ∃ B, BA + 1 = B := ⟨_, rfl⟩; have hgA : wr.grownBy wA none := (by rw [← hwA]; exact grown_alloc (grown_refl _ _) _); have hgn : wA.grownBy wn none := (by rw [← hwn]; exact grown_alloc (grown_refl _ _) _); have hA0 : wA.heap[BA]? = some (.cells #[.int .u8 a.k, .int .i64 a.co, .int .i64 a.b, .int .i64 a.p, .bool a.r] 63 (0, 0)) := (by rw [← hwA, ← hBA]; exact heap_alloc_new _ _); have HAN := qh (row_up hA0 hgn); have hsA : wA.heap.size = BN := (by rw [← hwA, World.size_alloc]; omega); have HNN : Hid (wn.heap[BN]? = some (.cells (na (bare a.k a.co (-1) a.b 0 0 false false)) 31 (0, 0))) := qh (by rw [← hwn, ← hsA]; exact heap_alloc_new _ _); have HGN := qh (grown_trans hgA hgn); have HBA : Hid (wr.heap.size ≤ BA ∧ BA + 1 = BN) := qh (by omega); have n0 : wn.cell? ⟨BN, 0, none⟩ = some (.int .u8 a.k) := (note_cells (tt.range_of HNN.out)).1;  rw [← HNB.out, hwA, hwn, hBA, hBN]; rw [HAKN.out] at HNN; obtain ⟨wm, hwm⟩ : ∃ x, wn = x := ⟨_, rfl⟩; rw [hwm] at HNN HAN HGN n0 ⊢; have HNM := HNN; have HAM := HAN; have HGM := HGN; have HLM := qh (HL1.out.grown HGM.out); have HFA : Hid (¬ F1.own BA ∧ ¬ F1.own BN) := qh (by have h1 := fun i => HL1.out.own.at'.own_lt (i := i); have := HBA.out; exact ⟨fun e => by have := h1 _ e; omega, fun e => by have := h1 _ e; omega⟩); clear hwm hwA hwn hBA hBN hgA hgn hA0 hsA r0 r1 r2 r3 r4)
                | (go_at_call 23; ((with_reducible refine (HNT.out _).mono ?_); rintro e wq ⟨rfl, hwq⟩; obtain rfl := hwq.symm))
                | ((with_reducible refine tt.load_nt (akn a) _ BN ?_ (tt.range_of HNM.out) ?_); (rfl))
                | (go_at_call 16; ((with_reducible refine (flo_bad HT.out HLM.out a HRD.out).mono ?_); rintro e w7 ⟨F2, v, er, rfl, her, hl7, hD⟩; have HLX := qh hl7; have HAX := qh (hD.heap HAM.out HFA.out.1); have hed : (er == 0) = false := (by simpa using her); clear hl7 hD her; obtain ⟨adx, capx, hvx⟩ := HLX.out.fl.sl.form; rw [← HQX.out] at hvx; have hcx : w7.cell? ⟨fb, 1, none⟩ = some (.slice adx qx capx) := (cr HLX.out.fl.blk 1 rfl).trans (by rw [hvx]; rfl); clear hvx; have x0 := cr HAX.out 0 rfl; have x1 := cr HAX.out 1 rfl; have x2 := cr HAX.out 2 rfl; have x3 := cr HAX.out 3 rfl; have x4 := cr HAX.out 4 rfl; have HON := qh (flo_one HT.out HLX.out (fun e => by have := HQX.out; rw [e] at this; simp at this; omega) (by omega) a.k a.co a.b a.p a.r)))
                | (go_at_call 25; ((with_reducible refine HON.out.mono ?_); rintro e wo ⟨rfl, Fo, Ho, vo, wyo, Co, hlo, hpo⟩; have HLO := qh hlo; clear hlo hcx x0 x1 x2 x3 x4)))
              go_roundw
              case rel => exact ⟨j + 1, Fo, Ho, vo, wyo, _, Co, by omega, by go_num, HLO.out.more (by omega) (by omega) (by omega)⟩
              case measure => simp [intOf]; omega
            · have hqd : decide (0 < qx) = false := by simpa using hq0
              go_wp2_with (first
                | ((with_reducible refine store_litS _ _ HNB.out _ _ _ (wr.heap.size + 1) ?_ ?_ ?_ ?_ ?_); (rw [World.size_alloc]); (rfl); (rfl); (rfl); obtain ⟨wA, hwA⟩ : ∃ x, wr.alloc (.cells #[.int .u8 a.k, .int .i64 a.co, .int .i64 a.b, .int .i64 a.p, .bool a.r] 63) = x := ⟨_, rfl⟩; obtain ⟨BA, hBA⟩ : ∃ B, wr.heap.size = B := ⟨_, rfl⟩; obtain ⟨wn, hwn⟩ : ∃ x, wA.alloc (.cells (na (bare a.k a.co (-1) a.b 0 0 false false)) 31) = x := ⟨_, rfl⟩; obtain ⟨BN, hBN⟩ : ∃ B, BA + 1 = B := ⟨_, rfl⟩; have hgA : wr.grownBy wA none := (by rw [← hwA]; exact grown_alloc (grown_refl _ _) _); have hgn : wA.grownBy wn none := (by rw [← hwn]; exact grown_alloc (grown_refl _ _) _); have hA0 : wA.heap[BA]? = some (.cells #[.int .u8 a.k, .int .i64 a.co, .int .i64 a.b, .int .i64 a.p, .bool a.r] 63 (0, 0)) := (by rw [← hwA, ← hBA]; exact heap_alloc_new _ _); have HAN := qh (row_up hA0 hgn); have hsA : wA.heap.size = BN := (by rw [← hwA, World.size_alloc]; omega); have HNN : Hid (wn.heap[BN]? = some (.cells (na (bare a.k a.co (-1) a.b 0 0 false false)) 31 (0, 0))) := qh (by rw [← hwn, ← hsA]; exact heap_alloc_new _ _); have HGN := qh (grown_trans hgA hgn); have HBA : Hid (wr.heap.size ≤ BA ∧ BA + 1 = BN) := qh (by omega); have n0 : wn.cell? ⟨BN, 0, none⟩ = some (.int .u8 a.k) := (note_cells (tt.range_of HNN.out)).1;  rw [← HNB.out, hwA, hwn, hBA, hBN]; rw [HAKN.out] at HNN; obtain ⟨wm, hwm⟩ : ∃ x, wn = x := ⟨_, rfl⟩; rw [hwm] at HNN HAN HGN n0 ⊢; have HNM := HNN; have HAM := HAN; have HGM := HGN; have HLM := qh (HL1.out.grown HGM.out); have HFA : Hid (¬ F1.own BA ∧ ¬ F1.own BN) := qh (by have h1 := fun i => HL1.out.own.at'.own_lt (i := i); have := HBA.out; exact ⟨fun e => by have := h1 _ e; omega, fun e => by have := h1 _ e; omega⟩); clear hwm hwA hwn hBA hBN hgA hgn hA0 hsA r0 r1 r2 r3 r4)
                | (go_at_call 23; ((with_reducible refine (HNT.out _).mono ?_); rintro e wq ⟨rfl, hwq⟩; obtain rfl := hwq.symm))
                | ((with_reducible refine tt.load_nt (akn a) _ BN ?_ (tt.range_of HNM.out) ?_); (rfl))
                | (go_at_call 16; ((with_reducible refine (flo_bad HT.out HLM.out a HRD.out).mono ?_); rintro e w7 ⟨F2, v, er, rfl, her, hl7, hD⟩; have HLX := qh hl7; have HAX := qh (hD.heap HAM.out HFA.out.1); have hed : (er == 0) = false := (by simpa using her); clear hl7 hD her; obtain ⟨adx, capx, hvx⟩ := HLX.out.fl.sl.form; rw [← HQX.out] at hvx; have hcx : w7.cell? ⟨fb, 1, none⟩ = some (.slice adx qx capx) := (cr HLX.out.fl.blk 1 rfl).trans (by rw [hvx]; rfl); clear hvx)))
              go_roundw
              case rel => exact ⟨j + 1, _, _, _, _, _, _, by omega, by go_num, HLX.out.more (by omega) (by omega) (by omega)⟩
              case measure => simp [intOf]; omega
        · have hnd : (net a.k == 0) = false := by simpa using hn0
          clear hn0
          obtain ⟨qx, hqx⟩ : ∃ q, q = (way).length := ⟨_, rfl⟩
          have HQX := qh hqx
          clear hqx
          by_cases hq0 : 0 < qx
          · have hqd : decide (0 < qx) = true := by simpa using hq0
            go_wp2_with (first
              | ((with_reducible refine store_litS _ _ HNB.out _ _ _ (wr.heap.size + 1) ?_ ?_ ?_ ?_ ?_); (rw [World.size_alloc]); (rfl); (rfl); (rfl); obtain ⟨wA, hwA⟩ : ∃ x, wr.alloc (.cells #[.int .u8 a.k, .int .i64 a.co, .int .i64 a.b, .int .i64 a.p, .bool a.r] 63) = x := ⟨_, rfl⟩; obtain ⟨BA, hBA⟩ : ∃ B, wr.heap.size = B := ⟨_, rfl⟩; obtain ⟨wn, hwn⟩ : ∃ x, wA.alloc (.cells (na (bare a.k a.co (-1) a.b 0 0 false false)) 31) = x := ⟨_, rfl⟩; obtain ⟨BN, hBN⟩ : ∃ B, BA + 1 = B := ⟨_, rfl⟩; have hgA : wr.grownBy wA none := (by rw [← hwA]; exact grown_alloc (grown_refl _ _) _); have hgn : wA.grownBy wn none := (by rw [← hwn]; exact grown_alloc (grown_refl _ _) _); have hA0 : wA.heap[BA]? = some (.cells #[.int .u8 a.k, .int .i64 a.co, .int .i64 a.b, .int .i64 a.p, .bool a.r] 63 (0, 0)) := (by rw [← hwA, ← hBA]; exact heap_alloc_new _ _); have HAN := qh (row_up hA0 hgn); have hsA : wA.heap.size = BN := (by rw [← hwA, World.size_alloc]; omega); have HNN : Hid (wn.heap[BN]? = some (.cells (na (bare a.k a.co (-1) a.b 0 0 false false)) 31 (0, 0))) := qh (by rw [← hwn, ← hsA]; exact heap_alloc_new _ _); have HGN := qh (grown_trans hgA hgn); have HBA : Hid (wr.heap.size ≤ BA ∧ BA + 1 = BN) := qh (by omega); have n0 : wn.cell? ⟨BN, 0, none⟩ = some (.int .u8 a.k) := (note_cells (tt.range_of HNN.out)).1;  rw [← HNB.out, hwA, hwn, hBA, hBN]; rw [HAKN.out] at HNN; obtain ⟨wm, hwm⟩ : ∃ x, wn = x := ⟨_, rfl⟩; rw [hwm] at HNN HAN HGN n0 ⊢; have HNM := HNN; have HAM := HAN; have HGM := HGN; have HLM := qh (HL1.out.grown HGM.out); have HFA : Hid (¬ F1.own BA ∧ ¬ F1.own BN) := qh (by have h1 := fun i => HL1.out.own.at'.own_lt (i := i); have := HBA.out; exact ⟨fun e => by have := h1 _ e; omega, fun e => by have := h1 _ e; omega⟩); clear hwm hwA hwn hBA hBN hgA hgn hA0 hsA r0 r1 r2 r3 r4)
              | (go_at_call 23; ((with_reducible refine (HNT.out _).mono ?_); rintro e wq ⟨rfl, hwq⟩; obtain rfl := hwq.symm; have HLX := HLM; have HAX := HAM; obtain ⟨adx, capx, hvx⟩ := HLX.out.fl.sl.form; rw [← HQX.out] at hvx; have hcx : wm.cell? ⟨fb, 1, none⟩ = some (.slice adx qx capx) := (cr HLX.out.fl.blk 1 rfl).trans (by rw [hvx]; rfl); clear hvx; have x0 := cr HAX.out 0 rfl; have x1 := cr HAX.out 1 rfl; have x2 := cr HAX.out 2 rfl; have x3 := cr HAX.out 3 rfl; have x4 := cr HAX.out 4 rfl; have HON := qh (flo_one HT.out HLX.out (fun e => by have := HQX.out; rw [e] at this; simp at this; omega) (by omega) a.k a.co a.b a.p a.r)))
              | (go_at_call 25; ((with_reducible refine HON.out.mono ?_); rintro e wo ⟨rfl, Fo, Ho, vo, wyo, Co, hlo, hpo⟩; have HLO := qh hlo; clear hlo hcx x0 x1 x2 x3 x4)))
            go_roundw
            case rel => exact ⟨j + 1, Fo, Ho, vo, wyo, _, Co, by omega, by go_num, HLO.out.more (by omega) (by omega) (by omega)⟩
            case measure => simp [intOf]; omega
          · have hqd : decide (0 < qx) = false := by simpa using hq0
            go_wp2_with (first
              | ((with_reducible refine store_litS _ _ HNB.out _ _ _ (wr.heap.size + 1) ?_ ?_ ?_ ?_ ?_); (rw [World.size_alloc]); (rfl); (rfl); (rfl); obtain ⟨wA, hwA⟩ : ∃ x, wr.alloc (.cells #[.int .u8 a.k, .int .i64 a.co, .int .i64 a.b, .int .i64 a.p, .bool a.r] 63) = x := ⟨_, rfl⟩; obtain ⟨BA, hBA⟩ : ∃ B, wr.heap.size = B := ⟨_, rfl⟩; obtain ⟨wn, hwn⟩ : ∃ x, wA.alloc (.cells (na (bare a.k a.co (-1) a.b 0 0 false false)) 31) = x := ⟨_, rfl⟩; obtain ⟨BN, hBN⟩ : ∃ B, BA + 1 = B := ⟨_, rfl⟩; have hgA : wr.grownBy wA none := (by rw [← hwA]; exact grown_alloc (grown_refl _ _) _); have hgn : wA.grownBy wn none := (by rw [← hwn]; exact grown_alloc (grown_refl _ _) _); have hA0 : wA.heap[BA]? = some (.cells #[.int .u8 a.k, .int .i64 a.co, .int .i64 a.b, .int .i64 a.p, .bool a.r] 63 (0, 0)) := (by rw [← hwA, ← hBA]; exact heap_alloc_new _ _); have HAN := qh (row_up hA0 hgn); have hsA : wA.heap.size = BN := (by rw [← hwA, World.size_alloc]; omega); have HNN : Hid (wn.heap[BN]? = some (.cells (na (bare a.k a.co (-1) a.b 0 0 false false)) 31 (0, 0))) := qh (by rw [← hwn, ← hsA]; exact heap_alloc_new _ _); have HGN := qh (grown_trans hgA hgn); have HBA : Hid (wr.heap.size ≤ BA ∧ BA + 1 = BN) := qh (by omega); have n0 : wn.cell? ⟨BN, 0, none⟩ = some (.int .u8 a.k) := (note_cells (tt.range_of HNN.out)).1;  rw [← HNB.out, hwA, hwn, hBA, hBN]; rw [HAKN.out] at HNN; obtain ⟨wm, hwm⟩ : ∃ x, wn = x := ⟨_, rfl⟩; rw [hwm] at HNN HAN HGN n0 ⊢; have HNM := HNN; have HAM := HAN; have HGM := HGN; have HLM := qh (HL1.out.grown HGM.out); have HFA : Hid (¬ F1.own BA ∧ ¬ F1.own BN) := qh (by have h1 := fun i => HL1.out.own.at'.own_lt (i := i); have := HBA.out; exact ⟨fun e => by have := h1 _ e; omega, fun e => by have := h1 _ e; omega⟩); clear hwm hwA hwn hBA hBN hgA hgn hA0 hsA r0 r1 r2 r3 r4)
              | (go_at_call 23; ((with_reducible refine (HNT.out _).mono ?_); rintro e wq ⟨rfl, hwq⟩; obtain rfl := hwq.symm; have HLX := HLM; have HAX := HAM; obtain ⟨adx, capx, hvx⟩ := HLX.out.fl.sl.form; rw [← HQX.out] at hvx; have hcx : wm.cell? ⟨fb, 1, none⟩ = some (.slice adx qx capx) := (cr HLX.out.fl.blk 1 rfl).trans (by rw [hvx]; rfl); clear hvx)))
            go_roundw
            case rel => exact ⟨j + 1, _, _, _, _, _, _, by omega, by go_num, HLX.out.more (by omega) (by omega) (by omega)⟩
            case measure => simp [intOf]; omega
    · have hjl : j = len := by omega
      clear hlt
      go_wp2_with fail
      have HL2 : Hid (Flo w wr fb h c qd qc F1 H1 vw way D C (3400 - 0) (1056400 + 2641 * 0) 200) := qh (HL1.out.more (by omega) (by omega) (by omega))
      clear HL1 hj hj200 hjl
      go_loopw [15] (fun i wr => ∃ (k : Nat) (F : Ft) (H : Hm) (vw : Value) (way : List Nt) (D C : Int → Int → Int), k ≤ 3400 ∧ i = .int .i64 (k : Int) ∧ Flo w wr fb h c qd qc F H vw way D C (3400 - k) (1056400 + 2641 * k) 200) (fun i _ => 5000 - (intOf i).toNat)
      case atStart => exact ⟨0, F1, H1, vw, way, D, C, Nat.zero_le _, rfl, HL2.out⟩
      case round =>
        clear HL2
        obtain ⟨k, F2, H2, v2, way2, D2, C2, hk, rfl, hl2⟩ := hrel
        have HL2 := qh hl2
        obtain ⟨adx, capx, hvx⟩ := hl2.fl.sl.form
        clear hl2
        obtain ⟨qx, hqx⟩ : ∃ q, q = way2.length := ⟨_, rfl⟩
        rw [← hqx] at hvx
        have HQX := qh hqx
        have hcx : wr.cell? ⟨fb, 1, none⟩ = some (.slice adx qx capx) := (cr HL2.out.fl.blk 1 rfl).trans (by rw [hvx]; rfl)
        clear hqx hvx
        by_cases hq0 : 0 < qx
        · have hqd : decide (0 < qx) = true := by simpa using hq0
          have h5 : decide ((5000 : Int) < (k : Int)) = false := by simp; omega
          have HON : Hid (∀ rf : Bool, _) := qh fun rf : Bool => flo_one HT.out HL2.out (fun e => by have := HQX.out; rw [e] at this; simp at this; omega) (by omega) 0 0 0 (k : Int) rf
          go_wp2_with (go_at_call 25; ((with_reducible refine (HON.out _).mono ?_); rintro e wo ⟨rfl, Fo, Ho, vo, wyo, Co, hlo, hpo⟩; have HLO := qh hlo; clear hlo hcx))
          go_roundw
          case rel => exact ⟨k + 1, Fo, Ho, vo, wyo, _, Co, by omega, by go_num, HLO.out.more (by omega) (by omega) (by omega)⟩
          case measure => simp [intOf]; omega
        · have hqd : decide (0 < qx) = false := by simpa using hq0
          have hw0 : way2 = [] := List.length_eq_zero_iff.1 (by have := HQX.out; omega)
          have hfi := HL2.out.fi
          rw [hw0] at hfi
          obtain ⟨hjn, hwt, hdc⟩ := floor_end hfi
          have HJN := qh hjn
          have HWT := qh hwt
          have HDC : Hid (∀ x b, C2 x b = D2 x b) := qh fun x b => by have := hdc x b; omega
          have hc2 : wr.cell? ⟨fb, 2, none⟩ = some (.map (some qd)) := cr HL2.out.fl.blk 2 rfl
          have HDU := qh HL2.out.fl.due
          clear hw0 hfi hjn hwt hdc hk hq0
          go_wp2_with (first
            | (at_range; (with_reducible refine rangeQ (.tmp 133) qd D2 ?_ HDU.out ?_); ((rfl)); (intro w3 n hI3 hg3 hs3; have HI3 := qh hI3; have HG3 := qh hg3; clear hI3 hg3 hs3)))
          go_frame
          obtain ⟨wY, rfl⟩ : ∃ x, x = wr := ⟨wr, rfl⟩
          obtain ⟨R, hR⟩ : ∃ x, wY.heap.size = x := ⟨_, rfl⟩
          rw [hR] at HI3 ⊢
          have HRL : Hid (wY.heap.size ≤ R) := qh (Nat.le_of_eq hR)
          clear hR
          go_loopw [17] (fun _ wz => ∃ n, IterQ wz qd R D2 n ∧ wY.grownBy wz none) (fun _ wz => leftQ wz qd R)
          case atStart => exact ⟨n, HI3.out, HG3.out⟩
          case round =>
            clear HI3 HG3
            obtain ⟨n2, hi2, hg2⟩ := hrel
            have HI := qh hi2
            have HG := qh hg2
            clear hi2 hg2
            have HOZ := qh (HL2.out.grown HG.out)
            go_wp2_with (first
              | (at_next; (with_reducible refine nextQ (.tmp 134) qd R D2 n2 ?_ HI.out ?_ ?_); ((rfl))))
            · have HWA : Hid (Calls Tryd.prog 19 #[.pointer (some ⟨h, 0, none⟩)] wr fun e w' => e = .returned (.int .i64 0) ∧ w' = wr) := qh (by
                have h1 := waits_any HOZ.out.own.at'
                rw [HWT.out] at h1
                exact h1)
              go_wp2_with (first
                | (go_at_call 19; ((with_reducible refine HWA.out.mono ?_); rintro e w6 ⟨rfl, hw6⟩; obtain rfl := hw6.symm))
                | (go_at_call 11; ((with_reducible refine (HW.out _ HOZ.out.own.old).mono ?_); rintro e w7 ⟨rfl, hg7⟩; have G7 := qh (grown_trans HOZ.out.own.old hg7); clear hg7)))
              go_ret
              exact ⟨rfl, G7.out⟩
            · intro wi n4 x q hI4 hlt4 hq0 hg4 hs4 hen
              have HI4 := qh hI4
              have HLT4 := qh hlt4
              have HGI : Hid (wY.grownBy wi none) := qh (grown_new HG.out hg4 HRL.out)
              have HQ0 := qh hq0
              clear hI4 hlt4 hg4 hs4 hq0
              go_wp2_with fail
              obtain ⟨w5, hw5⟩ : ∃ y, wi.alloc (.cells #[.int .i64 x, .int .i64 q] 65) = y := ⟨_, rfl⟩
              obtain ⟨B5, hB5⟩ : ∃ B, wi.heap.size = B := ⟨_, rfl⟩
              have hg5 : wi.grownBy w5 none := by rw [← hw5]; exact grown_alloc (grown_refl _ _) _
              have HB5 : Hid (w5.heap[B5]? = some (.cells #[.int .i64 x, .int .i64 q] 65 (0, 0))) := qh (by rw [← hw5, ← hB5]; exact heap_alloc_new _ _)
              have HG5 := qh (grown_trans HGI.out hg5)
              have HI5 := qh (HI4.out.more hg5)
              rw [hw5, hB5]
              clear hw5 hB5 hg5 hen
              have HS5 : Hid (∀ w', w5.grownBy w' none → w'.cell? ⟨fb, 3, none⟩ = some (.map (some qc)) ∧ w'.cell? ⟨B5, 0, none⟩ = some (.int .i64 x) ∧ w'.cell? ⟨B5, 1, none⟩ = some (.int .i64 q)) := qh fun w' h' => ⟨cr (HL2.out.grown (grown_trans HG5.out h')).fl.blk 3 rfl, cr (row_up HB5.out h') 0 rfl, cr (row_up HB5.out h') 1 rfl⟩
              have HBU : Hid (∀ w', w5.grownBy w' none → Calls Tryd.prog 13 #[.pointer (some ⟨h, 0, none⟩), .int .i64 q] w' fun e w'' => e = .returned (.bool false) ∧ w'.grownBy w'' none) := qh fun w' h' => by
                have h1 := own_busy (HL2.out.grown (grown_trans HG5.out h')).own q.toNat
                rw [Int.toNat_of_nonneg HQ0.out.1, HJN.out] at h1
                exact h1
              have HLK : Hid (∀ w', w5.grownBy w' none → _) := qh fun w' h' => lookup_q (HL2.out.grown (grown_trans HG5.out h')).fl.cam x q HQ0.out.2.1 HQ0.out.2.2
              rw [HDC.out] at HLK
              refine wp_region_held_drew (S := fun w' => w5.grownBy w' none) (by kernel_rfl) (tt.grown_drew (grown_refl _ _)) (fun hHeld => ?_)
              generalize w5.drew = wd at hHeld ⊢
              refine hh.tl 0 ⟨some 140, Op.move (.tmp 9), _, _, _, _⟩ ?v27 rfl ?hy27 ?_
              case hy27 => ((intro w0 hSw; go_simp); try (with_reducible rfl))
              try simp only [lay]
              refine hh.tl 1 ⟨some 141, Op.nilCheck (.tmp 140), _, _, _, _⟩ ?v28 rfl ?hy28 ?_
              case hy28 => ((intro w0 hSw; go_simp); try (with_reducible rfl))
              try simp only [lay]
              refine hh.tl 2 ⟨some 142, Op.fieldAddr 61 (.tmp 141) 3, _, _, _, _⟩ ?v29 rfl ?hy29 ?_
              case hy29 => ((intro w0 hSw; go_simp); try (with_reducible rfl))
              try simp only [lay]
              refine hh.tl 3 ⟨some 143, Op.load 59 (.tmp 142), _, _, _, _⟩ ?v30 rfl ?hy30 ?_
              case hy30 => ((intro w0 hSw; obtain ⟨hs1, hs2, hs3⟩ := HS5.out w0 hSw; go_simp); try (with_reducible rfl))
              try simp only [lay]
              refine hh.tl 4 ⟨some 144, Op.load 65 (.tmp 16), _, _, _, _⟩ ?v31 rfl ?hy31 ?_
              case hy31 => ((intro w0 hSw; obtain ⟨hs1, hs2, hs3⟩ := HS5.out w0 hSw; go_simp); try (with_reducible rfl))
              try simp only [lay]
              refine hh.tl 6 ⟨some 146, Op.move (.tmp 17), _, _, _, _⟩ ?v32 rfl ?hy32 ?_
              case hy32 => ((intro w0 hSw; go_simp); try (with_reducible rfl))
              try simp only [lay]
              have hlk := HLK.out _ hHeld
              refine rdo (i := 5) (o := ⟨some 145, Op.lookup 59 (.tmp 143) (.tmp 144) false, _, _, _, _⟩) rfl (fun K hK => ?_)
              go_simp
              refine hK.out _ _ hHeld (fun hHeld => ?_)
              clear hK K
              try simp only [lay]
              refine hh.tl 7 ⟨some 147, Op.binOp BinOp.neq 3 (.tmp 145) (.tmp 146) _, _, _, _, _⟩ ?v33 rfl ?hy33 ?_
              case hy33 => ((intro w0 hSw; go_simp); try (with_reducible rfl))
              try simp only [lay]
              refine hh.tl 8 ⟨some 148, Op.move (.tmp 147), _, _, _, _⟩ ?v34 rfl ?hy34 ?_
              case hy34 => ((intro w0 hSw; go_simp); try (with_reducible rfl))
              try simp only [lay]
              refine hh.tl 9 ⟨some 149, Op.move (.tmp 7), _, _, _, _⟩ ?v35 rfl ?hy35 ?_
              case hy35 => ((intro w0 hSw; go_simp); try (with_reducible rfl))
              try simp only [lay]
              refine hh.tl 10 ⟨some 150, Op.indexAddr 65 (.tmp 16) (.const (Value.int IntKind.i64 1)), _, _, _, _⟩ ?v36 rfl ?hy36 ?_
              case hy36 => ((intro w0 hSw; go_simp); try (with_reducible rfl))
              try simp only [lay]
              refine hh.tl 11 ⟨some 151, Op.load 3 (.tmp 150), _, _, _, _⟩ ?v37 rfl ?hy37 ?_
              case hy37 => ((intro w0 hSw; obtain ⟨hs1, hs2, hs3⟩ := HS5.out w0 hSw; go_simp); try (with_reducible rfl))
              try simp only [lay]
              refine rdo (i := 12) (o := ⟨some 152, Op.call { callee := Callee.value (.func 13), args := #[(.tmp 149), (.tmp 151)], argTypes := #[22, 3] }, _, _, _, _⟩) rfl (fun K hK => ?_)
              go_simp
              (with_reducible refine (HBU.out _ hHeld).mono ?_); rintro e wb ⟨rfl, hgb⟩; have hHeld2 := grown_trans hHeld hgb; clear hgb
              refine hK.out _ _ hHeld2 (fun hHeld => ?_)
              clear hK K
              try simp only [lay]
              refine hh.tl 13 ⟨some 153, Op.pick (.tmp 148) (.const (Value.bool true)) (.tmp 152), _, _, _, _⟩ ?v38 rfl ?hy38 ?_
              case hy38 => ((intro w0 hSw; go_simp); try (with_reducible rfl))
              try simp only [lay]
              refine wpAnyH_done (by kernel_rfl) ?_ _
              go_wp2_with fail
              go_roundw
              case rel => exact ⟨n4, HI5.out.more hHeld, grown_trans HG5.out hHeld⟩
              case measure => rw [(HI5.out.more hHeld).left, HI.out.left]; exact HLT4.out
theorem answers_true (c : Cfg) (ad : Option Addr) (len cap : Nat) (w : World) (T : Tabs w) (l : List Ak) (hlen : len = l.length) (hat : AsksAt w ad l) : Calls Tryd.prog 4 #[.agg c.cells, .slice ad len cap] w fun e w' => e = .returned (.bool true) ∧ w.grownBy w' none := by
  by_cases h : 200 < len
  · exact answers_long c ad len cap w T h
  · by_cases hm : c.may
    · exact answers_some c ad len cap w T l hlen hat (by omega) hm
    · exact answers_no c ad len cap w T (by omega) hm
end Go.Proofs.YtenhdijbcdkfbaaDoor.hh
