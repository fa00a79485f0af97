/-
  Who goes over a net is told its notes, in order; how many are of a node and a net; what Room answers: contracts. Condition: none but what each theorem names.
-/
import Derived.Test.YtoemkhmbeiindaaDoorNw
import Derived.Test.YtoemkhmbeiindaaDoorRf
namespace Go.Proofs.YtoemkhmbeiindaaDoor.tt
open Go Go.RowKit Go.Shelf
set_option linter.unusedVariables false
attribute [local go_sem] Oper.semAt_some
attribute [local simp] wide_fn

set_option maxHeartbeats 1000000 in
/-- isOf's answer, of a note. -/
theorem isOf1_any (n : Nt) (node qn : Int) (bn bt : Nat) (w : World) (h1 : w.cell? ⟨bn, 0, none⟩ = some (.int .i64 node)) (h2 : w.cell? ⟨bt, 0, none⟩ = some (.int .i64 qn)) :
    Calls Tryd.prog 59 #[.agg (na n), .pointer (some ⟨bn, 0, none⟩), .pointer (some ⟨bt, 0, none⟩)] w fun e w' => e = .returned (.bool (isOf node qn n)) ∧ w.grownBy w' none := by
  have hg : w.grownBy (w.alloc (.cells (na n) 37)) none := grown_alloc (grown_refl _ _) _
  have hb1 := World.block_lt_of_cell? w _ h1
  have hb2 := World.block_lt_of_cell? w _ h2
  have c0 := box w n 0 _ rfl
  have c2 := box w n 2 _ rfl
  have d1 := hg.cell h1 (by simp)
  have d2 := hg.cell h2 (by simp)
  have HG := Lib.hid hg
  have HN : Hid (∀ w, _) := Lib.hid fun w => net_any n.k w
  unfold isOf
  obtain ⟨m, hm⟩ : ∃ m, m = net n.k := ⟨_, rfl⟩
  rw [← hm] at HN ⊢
  clear h1 h2 hg hm hb1 hb2
  by_cases hn : n.t = node
  · have e1 : (n.t == node) = true := by simp [hn]
    have e2 : decide (n.t = node) = true := by simp [hn]
    rw [e2]
    clear hn e2
    go_enter Tryd.func59, Tryd.ntmps59
    go_wp2_with fail
    go_quiet ((go_at_call 29; exact Calls.quiet_of_same (HN.out _)))
    go_wp2_with fail
    go_ret
    exact ⟨by simp; rfl, grown_drewN HG.out _⟩
  · have e1 : (n.t == node) = false := by simp [hn]
    have e2 : decide (n.t = node) = false := by simp [hn]
    rw [e2]
    clear hn e2
    go_enter Tryd.func59, Tryd.ntmps59
    go_wp2_with fail
    go_quiet ((go_at_call 29; exact Calls.quiet_of_same (HN.out _)))
    go_wp2_with fail
    go_ret
    exact ⟨by simp, grown_drewN HG.out _⟩

set_option maxHeartbeats 1000000 in
theorem nall_in (n : Nat) (t : Nat) (w : World) :
    CallsIn Fence.wide n Tryd.prog 26 #[.pointer (some ⟨t, 0, none⟩)] w fun e w' => e = .returned (.func (.func 46) #[] #[.pointer (some ⟨w.heap.size, 0, none⟩)]) ∧ w' = w.alloc (.cells #[.pointer (some ⟨t, 0, none⟩)] 22) := by
  refine callsIn_of_wp Tryd.func26 rfl trivial ?_ rfl
  simp only [Tryd.ntmps26, List.size_toArray, List.length_cons, List.length_nil, Nat.reduceAdd, Nat.reduceSub, Array.replicate_succ, Array.replicate_zero, List.push_toArray, List.append_toArray, List.nil_append, List.cons_append]
  gi_wp2
  go_ret
  exact ⟨rfl, rfl⟩

/-- Where no depth is asked a round's word holds at each, and within another round. -/
theorem round_in (l' m' : Nat) {m : Nat} {P : Program} {l : Nat} {f : FuncId} {tmps : Array Value} {assign body : Code} {w : World} {R : Ending → World → Prop}
    (h : RoundIn Fence.wide m P l f tmps assign body w R) : RoundIn (Fence.wide.inRound l') m' P l f tmps assign body w R := ⟨h.1, fun c cs _ => h.2 c cs (fun d hd => by cases hd)⟩
def encN (n : Nt) : Array Value := #[.agg (na n)]
theorem zip_fst (ns : List Nt) : ns.zipIdx.map Prod.fst = ns := by simp
theorem fst_pre {ns : List Nt} {pre : List (Nt × Nat)} (h : pre <+: ns.zipIdx) : pre.map Prod.fst <+: ns := by
  obtain ⟨r, hr⟩ := h
  exact ⟨r.map Prod.fst, by rw [← List.map_append, hr, zip_fst]⟩
theorem ownFrom_up {β : Type} {B B' : Nat} {I : β → World → Prop} (h : OwnFrom B I) (hB : B ≤ B') : OwnFrom B' I := fun s W W' row hs hg hr => h s W W' row hs hg (fun r e => ⟨Nat.le_trans hB (hr r e).1, (hr r e).2⟩)
theorem ownFrom_map {β γ : Type} {B : Nat} {I : β → World → Prop} (f : γ → β) (h : OwnFrom B I) : OwnFrom B (fun s W => I (f s) W) := fun s W W' row hs hg hr => h (f s) W W' row hs hg hr

set_option maxRecDepth 1000000 in
set_option maxHeartbeats 4000000 in
/-- The net's iterator ranges over the pool's. -/
theorem nall1_in (n : Nat) (hn : 4 ≤ n) (l Bn t p r : Nat) (c : Cfg) (v : Value) (ns : List Nt) (h : Int) (J Jx : List Nt → World → Prop) (W : World) (hA : OwnFrom W.heap.size J) (hAx : OwnFrom W.heap.size Jx)
    (hY : ∀ (pre : List Nt) (x : Nt) W1, J pre W1 → W.heap.size + 1 ≤ W1.heap.size → pre.length < ns.length → YieldAt Fence.wide (n - 1) Tryd.prog l (encN x) W1 fun e W' =>
      Holds W.heap.size 1 W1 W' ∧ ((e = .returned (.bool true) ∧ J (pre ++ [x]) W' ∧ Same v W1 W') ∨ (e = .returned (.bool false) ∧ Jx (pre ++ [x]) W')))
    (hBn : W.cell? ⟨Bn, 0, none⟩ = some (.pointer (some ⟨t, 0, none⟩))) (H : NetAt W t p c r v ns h) (h0 : J [] W) :
    CallsIn Fence.wide n Tryd.prog 46 #[.func (.yield l) #[] #[], .pointer (some ⟨Bn, 0, none⟩)] W fun e W' => (∃ v, e = .returned v) ∧
      ((∃ ys, ys = ns ∧ J ys W') ∨ (∃ pre, pre <+: ns ∧ Jx pre W')) := by
  have hg1 : W.grownBy (W.alloc (.cells #[.func (.yield l) #[] #[]] 75)) none := grown_alloc (grown_refl _ _) _
  have b1 := Boxed.new W 75 (.func (.yield l) #[] #[])
  have hn1 : 1 ≤ n := by omega
  have hn2 : 1 ≤ n - 1 := by omega
  have hn3 : 1 ≤ n - 1 - 1 := by omega
  have hBn1 := hg1.cell hBn (by simp)
  have c9 := (H.grown hg1).c9
  have HH := Lib.hid (H.grown hg1)
  have HV : Hid (∀ k, v.ownBlock = some k → k < W.heap.size) := Lib.hid H.pool.sl.lt
  have HL := Lib.hid (len_64k H.inv)
  have HYY := Lib.hid hY
  have HA := Lib.hid hA
  have HAX := Lib.hid hAx
  have H0 := Lib.hid (hA.alloc (.cells #[.func (.yield l) #[] #[]] 75) h0)
  have HZ : Hid (na zn = _) := Lib.hid (bare_na 0 0 0 0 0 0 false false)
  clear H hY hA hAx h0 hg1 hBn
  refine callsIn_of_wp_marks Tryd.func46 rfl trivial ?_ rfl
  simp only [Tryd.ntmps46, List.size_toArray, List.length_cons, List.length_nil, Nat.reduceAdd, Nat.reduceSub, Array.replicate_succ, Array.replicate_zero, List.push_toArray, List.append_toArray, List.nil_append, List.cons_append]
  gi_wp2_with (gi_at_call 47; refine (pall_in _ _ _).mono ?_; rintro e w' ⟨rfl, rfl⟩)
  have b2 := Boxed.new (W.alloc (.cells #[.func (.yield l) #[] #[]] 75)) 70 (.pointer (some ⟨p, 0, none⟩))
  rw [World.size_alloc] at b2
  have b1' := b1.alloc (.cells #[.pointer (some ⟨p, 0, none⟩)] 70)
  obtain ⟨W0, hW0⟩ : ∃ W0, W0 = (W.alloc (.cells #[.func (.yield l) #[] #[]] 75)).alloc (.cells #[.pointer (some ⟨p, 0, none⟩)] 70) := ⟨_, rfl⟩
  have hs0 : W0.heap.size = W.heap.size + 2 := by rw [hW0]; simp
  have hJ0 : J [] W0 := by rw [hW0]; exact HA.out.alloc _ H0.out
  have hP0 : NPool W0 p v (capOf c r) ns := by rw [hW0]; exact (HH.out.grown (grown_alloc (grown_refl _ _) _)).pool
  have hgW : W.grownBy W0 none := by rw [hW0]; exact grown_alloc (grown_alloc (grown_refl _ _) _) _
  rw [← hW0] at b2 b1' ⊢
  clear b1 hW0 H0
  apply wpIn_rangeFunc_ownH rfl hn1 (gf := 63) (lb := #[.pointer (some ⟨W.heap.size + 1, 0, none⟩)]) rfl trivial (enters_of Tryd.func63 (by kernel_rfl) rfl)
    (Kp := Same v) (pall_stops (n - 1) hn2 (W.heap.size + 1) p v (capOf c r) ns W0 hP0 HL.out b2.cell) (fun {A B C} h k => Same.trans h k) (Same.put (fun k hk => by have := HV.out k hk; omega)) (Below.refl _ _) (fun _ => rfl)
    (fun pre X => Boxed X W.heap.size 75 (.func (.yield l) #[] #[]) ∧ J (pre.map Prod.fst) X)
    (fun cc ys X => cc = .ret ∧ Jx (ys.map Prod.fst) X)
    (OwnFrom.and (fun s A B row hs hg hr => hs.kept hg fun e => by
      obtain ⟨hb, o, ho, hc⟩ := hr _ e.symm
      rw [show A.heap[W.heap.size]? = _ from hs] at ho; cases ho; cases hc) (ownFrom_map _ (ownFrom_up HA.out (by omega))))
    (fun c' => OwnFrom.and (fun s A B row hs hg hr => hs) (ownFrom_map _ (ownFrom_up HAX.out (by omega))))
    ⟨b1', hJ0⟩
    (fun x a' X => ∃ Bx, W.heap.size < Bx ∧ X.heap[Bx]? = some (.cells (na x.1) 37 (0, 0)) ∧ a' = { tmps := #[.func (.yield l) #[] #[], .pointer (some ⟨Bn, 0, none⟩), .pointer (some ⟨W.heap.size, 0, none⟩), undef, .pointer (some ⟨Bx, 0, none⟩), .pointer (some ⟨t, 0, none⟩), .bool false, .pointer (some ⟨t, 0, none⟩), .pointer (some ⟨t, 0, none⟩), .pointer (some ⟨t, 9, none⟩), .pointer (some ⟨p, 0, none⟩), .func (.func 63) #[] #[.pointer (some ⟨W.heap.size + 1, 0, none⟩)], .int .i64 (x.2 : Int), .agg (na x.1), undef, undef, undef, undef], defers := [] })
  case hAx =>
    rintro x a' s A B row ⟨Bx, h1, h2, h3⟩ hg hr
    exact ⟨Bx, h1, (hg.block Bx (lt_of h2) (fun e => by
      obtain ⟨hb, o, ho, hc⟩ := hr _ e.symm
      rw [h2] at ho; cases ho; cases hc)).trans h2, h3⟩
  case hassign =>
    rintro l' pre ⟨x, i⟩ X K ⟨hb, hJ⟩ hK
    have HK := Lib.hid hK
    have HX := Lib.hid (hK _ (X.alloc (.cells (na x) 37)) ((KeepsOthers.alloc _ _).from _) (Same.of_grown (fun k hk => by have := HV.out k hk; have := hb.lt; omega) (grown_alloc (grown_refl _ _) _)) ⟨hb.alloc _, HA.out.alloc _ hJ⟩ ⟨X.heap.size, hb.lt, heap_alloc_new _ _, rfl⟩)
    clear hK hJ
    unfold encP
    gi_wp2_with ((with_reducible refine store_newI x _ HZ.out _ _ ?_ ?_ ?_); (rfl); (rfl))
    exact HX.out
  case hbody =>
    rintro l' pre ⟨x, i⟩ a' X hl' _ ⟨hb, hJ⟩ ⟨Bx, hBx, hbx, rfl⟩ hlt
    obtain ⟨fn, tmps, assign, body, hy, hR⟩ := HYY.out (pre.map Prod.fst) x X hJ hb.lt (by rw [List.length_map]; exact hlt)
    have HB := Lib.hid hb
    have HX : Hid (X.rangeAt Bx 0 (nt x)) := Lib.hid (range_of hbx)
    have hbc := hb.cell
    unfold encN at hy
    clear hb hJ hbx hlt hl'
    gi_wp2_with ((with_reducible refine load_naI x _ Bx 0 ?_ HX.out ?_); (rfl))
    refine (round_in _ _ hR).mono ?_
    rintro e X3 ⟨hkf, (⟨rfl, hJ3, hk3⟩ | ⟨rfl, hJx3⟩)⟩
    · have hb3 : Boxed X3 W.heap.size 75 (.func (.yield l) #[] #[]) := (hkf.same _ (Nat.le_refl _) (by omega)).trans HB.out
      gi_wp2
      exact ⟨keeps_up hkf.keeps (by omega), hk3, hb3, by rw [List.map_append]; exact hJ3⟩
    · gi_wp2
      exact ⟨keeps_up hkf.keeps (by omega), rfl, by rw [List.map_append]; exact hJx3⟩
  case hdone =>
    rintro D ys X hD rfl ⟨hb, hJ⟩ hK
    gi_wp2
    refine ⟨by simp, .inl ⟨_, _, rfl, run_takeDeferred hK, ?_⟩⟩
    refine ⟨_, results_none rfl _ _ _, ⟨_, rfl⟩, .inl ⟨ns, rfl, ?_⟩⟩
    rw [zip_fst] at hJ
    exact HA.out.putObj _ hJ (by omega) hK rfl
  case hstop =>
    rintro D c' pre X hD hpre ⟨rfl, hJ⟩ hK
    gi_wp2
    refine ⟨by simp, .inl ⟨_, _, rfl, run_takeDeferred hK, ?_⟩⟩
    refine ⟨_, results_none rfl _ _ _, ⟨_, rfl⟩, .inr ⟨_, fst_pre hpre, ?_⟩⟩
    exact HAX.out.putObj _ hJ (by omega) hK rfl
theorem nall_stops (n : Nat) (hn : 4 ≤ n) (Bn t p r : Nat) (c : Cfg) (v : Value) (ns : List Nt) (h : Int) (w : World) (H : NetAt w t p c r v ns h) (hc : w.cell? ⟨Bn, 0, none⟩ = some (.pointer (some ⟨t, 0, none⟩))) :
    SeqR Fence.wide n Tryd.prog 46 #[.pointer (some ⟨Bn, 0, none⟩)] encN (Same v) (fun ys => ys = ns) (fun pre => pre <+: ns) ns.length 1 w := fun l J Jx W hW hJ hJx hY h0 =>
  nall1_in n hn l Bn t p r c v ns h J Jx W hJ hJx hY ((hW.cell (p := ⟨Bn, 0, none⟩) (World.block_lt_of_cell? w _ hc)).trans hc) (H.of_block (hW.block t H.lt) (hW.block p H.pool.lt) (fun g hg => hW.block g (H.pool.sl.lt g hg))) h0

/-- What a function answers whose result is a variable that is boxed. -/
theorem results_box {P : Program} {fn : Func} {p : Tmp} {ty : TypeId} (h : fn.results = #[.cell p ty]) (hagg : ∀ w, (isAgg ty).run P w = .ok false w) (tmps : Array Value) (w : World) (a : Addr) (v : Value)
    (hp : tmps.getD p undef = .pointer (some a)) (hc : w.cell? a = some v) : (results fn tmps).run P w = .ok v w := by
  have hl : (load a).run P w = .ok v w := by simp [go_sem, hc]
  simp only [results, h]
  have hp' : tmps[p]?.getD undef = .pointer (some a) := by simpa using hp
  simp [Sem.run_bind, loadVar, asAddr, hp', hagg, hc, Result.andThen]
theorem boxed_from {B : Nat} {β : Type} (k : Nat) (t : TypeId) (f : β → Value) : OwnFrom B (fun s W => Boxed W k t (f s)) := fun s A B' row hs hg hr => hs.kept hg fun e => by
  obtain ⟨hb, o, ho, hc⟩ := hr k e.symm
  rw [show A.heap[k]? = _ from hs] at ho; cases ho; cases hc
theorem many_pre (pre : List Nt) (x : Nt) (node qn : Int) : (many (pre ++ [x]) node qn : Int) = (many pre node qn : Int) + (if isOf node qn x then 1 else 0) := by
  rw [many_snoc]; split <;> simp
theorem many_le (ns : List Nt) (node qn : Int) : many ns node qn ≤ ns.length := List.countP_le_length

set_option maxRecDepth 1000000 in
set_option maxHeartbeats 4000000 in
theorem many_any (t p r : Nat) (c : Cfg) (v : Value) (ns : List Nt) (h : Int) (node qn : Int) (bn bt : Nat) (w : World) (H : NetAt w t p c r v ns h) (h1 : w.cell? ⟨bn, 0, none⟩ = some (.int .i64 node)) (h2 : w.cell? ⟨bt, 0, none⟩ = some (.int .i64 qn)) :
    Calls Tryd.prog 38 #[.pointer (some ⟨t, 0, none⟩), .func (.func 59) #[] #[.pointer (some ⟨bn, 0, none⟩), .pointer (some ⟨bt, 0, none⟩)]] w fun e W' => e = .returned (.int .i64 (many ns node qn : Int)) ∧ w.grownBy W' none := by
  refine (callsIn_wide (n := 9)).1 ?_
  have HL := Lib.hid (len_64k H.inv)
  have HH := Lib.hid H
  have HV : Hid (∀ k, v.ownBlock = some k → k < w.heap.size) := Lib.hid H.pool.sl.lt
  have H1 := Lib.hid h1
  have H2 := Lib.hid h2
  have HZ : Hid (na zn = _) := Lib.hid (bare_na 0 0 0 0 0 0 false false)
  have hbn := World.block_lt_of_cell? w _ h1
  have hbt := World.block_lt_of_cell? w _ h2
  clear H h1 h2
  refine callsIn_of_wp_marks Tryd.func38 rfl trivial ?_ rfl
  simp only [Tryd.ntmps38, List.size_toArray, List.length_cons, List.length_nil, Nat.reduceAdd, Nat.reduceSub, Array.replicate_succ, Array.replicate_zero, List.push_toArray, List.append_toArray, List.nil_append, List.cons_append]
  gi_wp2_with (gi_at_call 26; refine (nall_in _ _ _).mono ?_; rintro e w' ⟨rfl, rfl⟩)
  have b1 := Boxed.new w 75 (.func (.func 59) #[] #[.pointer (some ⟨bn, 0, none⟩), .pointer (some ⟨bt, 0, none⟩)])
  have b2 := Boxed.new (w.alloc (.cells #[.func (.func 59) #[] #[.pointer (some ⟨bn, 0, none⟩), .pointer (some ⟨bt, 0, none⟩)]] 75)) 3 (.int .i64 0)
  have b3 := Boxed.new ((w.alloc (.cells #[.func (.func 59) #[] #[.pointer (some ⟨bn, 0, none⟩), .pointer (some ⟨bt, 0, none⟩)]] 75)).alloc (.cells #[.int .i64 0] 3)) 22 (.pointer (some ⟨t, 0, none⟩))
  rw [World.size_alloc] at b2
  rw [World.size_alloc, World.size_alloc] at b3
  have c1 := (b1.alloc (.cells #[.int .i64 0] 3)).alloc (.cells #[.pointer (some ⟨t, 0, none⟩)] 22)
  have c2 := b2.alloc (.cells #[.pointer (some ⟨t, 0, none⟩)] 22)
  obtain ⟨W0, hW0⟩ : ∃ W0, W0 = ((w.alloc (.cells #[.func (.func 59) #[] #[.pointer (some ⟨bn, 0, none⟩), .pointer (some ⟨bt, 0, none⟩)]] 75)).alloc (.cells #[.int .i64 0] 3)).alloc (.cells #[.pointer (some ⟨t, 0, none⟩)] 22) := ⟨_, rfl⟩
  have hgW : w.grownBy W0 none := by rw [hW0]; exact grown_alloc (grown_alloc (grown_alloc (grown_refl _ _) _) _) _
  have hs0 : W0.heap.size = w.heap.size + 3 := by rw [hW0]; simp
  rw [← hW0] at c1 c2 b3 ⊢
  clear b1 b2 hW0
  have HG := Lib.hid hgW
  apply rangeR rfl (by omega) (gf := 46) (lb := #[.pointer (some ⟨w.heap.size + 2, 0, none⟩)]) rfl trivial (enters_of Tryd.func46 (by kernel_rfl) rfl)
    (Kp := Same v) (nall_stops 8 (by omega) (w.heap.size + 2) t p r c v ns h W0 (HH.out.grown hgW) b3.cell) (fun {A B C} h k => Same.trans h k) (Same.put (fun k hk => by have := HV.out k hk; omega)) (Below.refl _ _) (fun _ => rfl)
    (fun pre X => (Boxed X w.heap.size 75 (.func (.func 59) #[] #[.pointer (some ⟨bn, 0, none⟩), .pointer (some ⟨bt, 0, none⟩)]) ∧ Boxed X (w.heap.size + 1) 3 (.int .i64 (many pre node qn : Int))) ∧ Below w.heap.size w X)
    (fun cc ys X => False)
    (OwnFrom.and (OwnFrom.and (boxed_from _ _ (fun _ => _)) (boxed_from _ _ (fun pre => .int .i64 (many pre node qn : Int)))) (ownFrom_below (Nat.le_refl _) (by omega)))
    (fun c' s A B row hs hg hr => hs)
    ⟨⟨c1, c2⟩, below_of hgW⟩
    (fun x a' X => ∃ Bx, W0.heap.size ≤ Bx ∧ X.heap[Bx]? = some (.cells (na x) 37 (0, 0)) ∧ a' = { tmps := #[.pointer (some ⟨t, 0, none⟩), .func (.func 59) #[] #[.pointer (some ⟨bn, 0, none⟩), .pointer (some ⟨bt, 0, none⟩)], undef, .pointer (some ⟨w.heap.size, 0, none⟩), .int .i64 0, .pointer (some ⟨w.heap.size + 1, 0, none⟩), .pointer (some ⟨Bx, 0, none⟩), .pointer (some ⟨t, 0, none⟩), .func (.func 46) #[] #[.pointer (some ⟨w.heap.size + 2, 0, none⟩)], .agg (na x), undef, undef, undef, undef, undef, undef], defers := [] })
  case hAx =>
    rintro x a' s A B row ⟨Bx, h1, h2, h3⟩ hg hr
    exact ⟨Bx, h1, (hg.block Bx (lt_of h2) (fun e => by
      obtain ⟨hb, o, ho, hc⟩ := hr _ e.symm
      rw [h2] at ho; cases ho; cases hc)).trans h2, h3⟩
  case hassign =>
    rintro l' pre x X K ⟨⟨hb1, hb2⟩, hbl⟩ hsz hK
    have hgx : X.grownBy (X.alloc (.cells (na x) 37)) none := grown_alloc (grown_refl _ _) _
    have hbl2 := hbl.size
    have HX := Lib.hid (hK _ (X.alloc (.cells (na x) 37)) ⟨(KeepsOthers.alloc _ _).from _, Holds.of_grown hgx (fun r e => by cases e) (by omega)⟩ (Same.of_grown (fun k hk => by have := HV.out k hk; omega) hgx) ⟨⟨hb1.alloc _, hb2.alloc _⟩, hbl.alloc hbl.size _⟩ ⟨X.heap.size, by omega, heap_alloc_new _ _, rfl⟩)
    clear hK hb1 hb2 hbl hgx hbl2
    unfold encN
    gi_wp2_with ((with_reducible refine store_newI x _ HZ.out _ _ ?_ ?_ ?_); (rfl); (rfl))
    exact HX.out
  case hbody =>
    rintro l' pre x a' X hl' ⟨⟨hb1, hb2⟩, hbl⟩ ⟨Bx, hBx, hbx, rfl⟩ hsz hlt
    have HX : Hid (X.rangeAt Bx 0 (nt x)) := Lib.hid (range_of hbx)
    have HI : Hid (∀ n, CallsIn (Fence.wide.inRound l') n Tryd.prog 59 _ X _) := Lib.hid fun n => CallsIn.inRound l' (callsIn_wide.2 (isOf1_any x node qn bn bt X ((hbl.cell (p := ⟨bn, 0, none⟩) hbn).trans H1.out) ((hbl.cell (p := ⟨bt, 0, none⟩) hbt).trans H2.out)))
    have hc1 := hb1.cell
    have HB1 := Lib.hid hb1
    have HB2 := Lib.hid hb2
    have HBL := Lib.hid hbl
    have HSZ := Lib.hid hsz
    have HMP := Lib.hid (many_pre pre x node qn)
    have HML : Hid (many pre node qn ≤ 65536) := Lib.hid (Nat.le_trans (many_le pre node qn) (by have := HL.out; omega))
    clear hb1 hb2 hbl hbx hlt hl' hsz
    cases hx : isOf node qn x
    · rw [hx] at HI HMP
      clear hx
      gi_wp2_with (first
        | ((with_reducible refine load_naI x _ Bx 0 ?_ HX.out ?_); (rfl))
        | (gi_at_call 59; ((with_reducible refine (HI.out _).mono ?_); rintro e X2 ⟨rfl, hg2⟩; have HG2 := Lib.hid hg2; clear hg2)))
      have hbs := HBL.out.size
      exact ⟨⟨KeepsFrom.of_grownBy HG2.out (fun r e => by cases e), Holds.of_grown HG2.out (fun r e => by cases e) (by have := HSZ.out; omega)⟩, Same.of_grown (fun k hk => by have := HV.out k hk; omega) HG2.out, ⟨HB1.out.kept HG2.out (by simp), by rw [HMP.out]; simpa using HB2.out.kept HG2.out (by simp)⟩, HBL.out.grown HG2.out hbs (fun r e => by cases e)⟩
    · rw [hx] at HI HMP
      clear hx
      have hml := HML.out
      gi_wp2_with (first
        | ((with_reducible refine load_naI x _ Bx 0 ?_ HX.out ?_); (rfl))
        | (gi_at_call 59; ((with_reducible refine (HI.out _).mono ?_); rintro e X2 ⟨rfl, hg2⟩; have HG2 := Lib.hid hg2; have HB2' := Lib.hid (HB2.out.kept hg2 (by simp)); have hc2 := HB2'.out.cell; have hf2 := HB2'.out.frozen; clear hg2)))
      have hbs := HBL.out.size
      have hsz := HSZ.out
      have hgs := HG2.out.size
      have hB2 := HBL.out.grown HG2.out hbs (fun r e => by cases e)
      exact ⟨⟨(KeepsFrom.of_grownBy HG2.out (fun r e => by cases e)).trans ((KeepsOthers.setCell _ _ _).from _), (Holds.of_grown HG2.out (fun r e => by cases e) (by omega)).trans (Holds.of_grown (grownBy_setCell' _ _ _) (fun r e => by cases e; omega) (by omega))⟩, (Same.of_grown (fun k hk => by have := HV.out k hk; omega) HG2.out).trans (fun k hk => Below.heap_setCell _ _ _ _ (show k ≠ w.heap.size + 1 by have := HV.out k hk; omega)), ⟨(HB1.out.kept HG2.out (by simp)).other (by omega) _, by rw [HMP.out]; exact HB2'.out.set _⟩, hB2.setCell (p := ⟨w.heap.size + 1, 0, none⟩) (by simp) _⟩
  case hdone =>
    rintro D ys X hD rfl ⟨⟨hb1, hb2⟩, hbl⟩ hK
    have hc2 := hb2.cell
    gi_wp2
    refine ⟨by simp, .inl ⟨_, _, rfl, run_takeDeferred hK, ?_⟩⟩
    have hbb := hbl.trans (belowK_b (w := w) (Nat.le_refl _) X D (.deferred (some [])) (.deferred none) (by omega) hK rfl rfl)
    exact ⟨_, results_tmp rfl _ _ _, rfl, ⟨hbb.os, hbb.tape, hbb.output, hbb.size, fun k hk _ => hbb.block k hk⟩⟩
  case hstop =>
    rintro D c' pre X hD hpre hF hK
    exact hF.elim
end Go.Proofs.YtoemkhmbeiindaaDoor.tt
