/-
  The document's own marks: where they lie, what New, Read, Write, Has, Meets, All, Clear answer and make of them: definitions and contracts. No condition but what each theorem names.
-/
import Derived.Test.YtegaalhbebibgaaDoorMkD
import Derived.Test.YtegaalhbebibgaaDoorPr
namespace Go.Proofs.YtegaalhbebibgaaDoor.mrk
open Go Go.ChangeShapes Go.WideShapes Go.ChangeAt Go.RowKit Go.Maps Go.Sort
open Go.Proofs.YtegaalhbebibgaaDoor.tt (Cfg Tab CfgAt cfg_at rdata_any grown_refl grown_alloc grown_trans grown_drew grown_drewN grown_setCells heap_setCells lt_of tyne)
set_option linter.unusedVariables false
set_option linter.unusedSimpArgs false
set_option maxRecDepth 1000000

theorem made {P : Program} (t e : TypeId) (i : TypeInfo) (z : Value) (n size : Nat) (ht : P.underlying t = some (.slice e)) (hi : P.info? e = some i) (hz : i.zero = some z) (h1 : i.size = size) (hc : z.cells.size = size) (h0 : 0 < size)
    (hb : (i.bytes : Int) * (n : Int) ≤ 281474976710656) (h63 : (n : Int) ≤ 9223372036854775807) :
    ∃ cs : Array Value, cs.size = n * size ∧ (∀ (j k : Nat) v, j < n → z.cells[k]? = some v → cs[j * size + k]? = some v) ∧ ∀ w : World, (Instr.makeSlice t (.int .i64 (n : Int)) (.int .i64 (n : Int))).run P w = .ok (.slice (some ⟨w.heap.size, 0, none⟩) n n) (w.alloc (.cells cs e)) := by
  refine ⟨madeCells z.cells (n * size), by rw [size_madeCells], fun j k v hj hk => ?_, fun w => ?_⟩
  · have hks : k < size := by have := (Array.getElem?_eq_some_iff.1 hk).1; omega
    have hjk : j * size + k < n * size := by
      have : (j + 1) * size ≤ n * size := Nat.mul_le_mul_right _ hj
      rw [Nat.add_mul, Nat.one_mul] at this
      omega
    unfold madeCells
    rw [Array.getElem?_map, Array.getElem?_range, if_pos hjk]
    simp only [Option.map_some, hc]
    rw [Nat.mul_comm j size, Nat.mul_add_mod, Nat.mod_eq_of_lt hks, getElem!_def, hk]
  · have hrun := run_make (P := P) w t e i z ht hi hz .i64 .i64 n n (by omega) (Int.le_refl _) hb h63
    rw [Int.toNat_natCast, h1] at hrun
    exact hrun


/-- Bools in a block of their own: of each number below N what f says. -/
def BAt (w : World) (g N : Nat) (f : Int → Bool) : Prop := ∃ cs : Array Value, w.heap[g]? = some (.cells cs 4 (0, 0)) ∧ cs.size = N ∧ ∀ k : Nat, k < N → cs[k]? = some (.bool (f (k : Int)))
section
variable {w w' : World} {g N : Nat} {f : Int → Bool}
theorem BAt.lt (h : BAt w g N f) : g < w.heap.size := by obtain ⟨cs, hb, _⟩ := h; exact lt_of hb
theorem BAt.same (h : BAt w g N f) (hb : w'.heap[g]? = w.heap[g]?) : BAt w' g N f := by obtain ⟨cs, h1, h2⟩ := h; exact ⟨cs, hb.trans h1, h2⟩
theorem BAt.cell (h : BAt w g N f) {k : Nat} (hk : k < N) : w.cell? ⟨g, k, none⟩ = some (.bool (f (k : Int))) := by
  obtain ⟨cs, h1, h2, h3⟩ := h
  rw [cell_of_row _ _ k _ _ _ h1]; exact h3 k hk
theorem BAt.frozen (h : BAt w g N f) (j : Nat) : w.frozen? ⟨g, j, none⟩ = false := by
  obtain ⟨cs, h1, _⟩ := h
  exact frozen_of_row _ _ _ _ _ h1
theorem BAt.set (h : BAt w g N f) {k : Nat} (hk : k < N) : BAt (w.setCell ⟨g, k, none⟩ (.bool true)) g N (fun x => if x = (k : Int) then true else f x) ∧ w.grownBy (w.setCell ⟨g, k, none⟩ (.bool true)) (some g) := by
  obtain ⟨cs, h1, h2, h3⟩ := h
  obtain ⟨cur', q1, q2, q3, q4⟩ := heap_setCells g 4 [.bool true] k w cs h1 (by simp; omega)
  refine ⟨⟨cur', q1, by omega, fun j hj => ?_⟩, grown_setCells w g k [.bool true]⟩
  by_cases e : j = k
  · subst e
    have := q4 0 (.bool true) rfl
    rw [Nat.add_zero] at this
    rw [this]; simp
  · have hne : ¬ ((j : Int) = (k : Int)) := by omega
    rw [q3 j (by simp; omega), h3 j hj]; simp [hne]
theorem BAt.new (w : World) (cs : Array Value) (N : Nat) (hs : cs.size = N) (hc : ∀ k : Nat, k < N → cs[k]? = some (.bool false)) : BAt (w.alloc (.cells cs 4)) w.heap.size N (fun _ => false) := ⟨cs, heap_alloc_new _ _, hs, hc⟩
end
/-- Where the document's marks lie: the struct in block r, what was read in g1, what was written in g2. -/
structure RAt (w : World) (r g1 g2 N : Nat) (s : Ms) : Prop where
  blk : w.heap[r]? = some (.cells #[.slice (some ⟨g1, 0, none⟩) N N, .slice (some ⟨g2, 0, none⟩) N N] 64 (0, 0))
  rd : BAt w g1 N s.r
  wt : BAt w g2 N s.w
  ne : g1 ≠ g2
  dom : Dom (N : Int) s
  small : N ≤ 256
section
variable {w w' : World} {r g1 g2 N : Nat} {s s' : Ms}
theorem RAt.lt (h : RAt w r g1 g2 N s) : r < w.heap.size := lt_of h.blk
theorem RAt.c0 (h : RAt w r g1 g2 N s) : w.cell? ⟨r, 0, none⟩ = some (.slice (some ⟨g1, 0, none⟩) N N) := by simp [World.cell?, h.blk]
theorem RAt.c1 (h : RAt w r g1 g2 N s) : w.cell? ⟨r, 1, none⟩ = some (.slice (some ⟨g2, 0, none⟩) N N) := by simp [World.cell?, h.blk]
theorem RAt.r1 (h : RAt w r g1 g2 N s) : r ≠ g1 := by obtain ⟨cs, h1, _⟩ := h.rd; exact tyne h.blk h1 (by decide)
theorem RAt.r2 (h : RAt w r g1 g2 N s) : r ≠ g2 := by obtain ⟨cs, h1, _⟩ := h.wt; exact tyne h.blk h1 (by decide)
theorem RAt.of_block (h : RAt w r g1 g2 N s) (h0 : w'.heap[r]? = w.heap[r]?) (h1 : w'.heap[g1]? = w.heap[g1]?) (h2 : w'.heap[g2]? = w.heap[g2]?) : RAt w' r g1 g2 N s := ⟨h0.trans h.blk, h.rd.same h1, h.wt.same h2, h.ne, h.dom, h.small⟩
theorem RAt.grown (h : RAt w r g1 g2 N s) (hg : w.grownBy w' none) : RAt w' r g1 g2 N s := h.of_block (hg.block r h.lt (by simp)) (hg.block g1 h.rd.lt (by simp)) (hg.block g2 h.wt.lt (by simp))
theorem RAt.setr (h : RAt w r g1 g2 N s) {k : Nat} (hk : k < N) : RAt (w.setCell ⟨g1, k, none⟩ (.bool true)) r g1 g2 N (s.rd (k : Int)) := by
  obtain ⟨hb, hg⟩ := h.rd.set hk
  exact ⟨(hg.block r h.lt (fun e => h.r1 (Option.some.inj e))).trans h.blk, hb, h.wt.same (hg.block g2 h.wt.lt (fun e => h.ne (Option.some.inj e).symm)), h.ne, dom_rd h.dom ⟨by omega, by omega⟩, h.small⟩
theorem RAt.setw (h : RAt w r g1 g2 N s) {k : Nat} (hk : k < N) : RAt (w.setCell ⟨g2, k, none⟩ (.bool true)) r g1 g2 N (s.wr (k : Int)) := by
  obtain ⟨hb, hg⟩ := h.wt.set hk
  exact ⟨(hg.block r h.lt (fun e => h.r2 (Option.some.inj e))).trans h.blk, h.rd.same (hg.block g1 h.rd.lt (fun e => h.ne (Option.some.inj e))), hb, h.ne, dom_wr h.dom ⟨by omega, by omega⟩, h.small⟩
end

theorem infoB : (Tryd.prog.info? 4).map (fun i => (i.zero, i.size, i.bytes)) = some (some (.bool false), 1, 1) := by kernel_rfl
theorem infoI : (Tryd.prog.info? 3).map (fun i => (i.zero, i.size, i.bytes)) = some (some (.int .i64 0), 1, 8) := by kernel_rfl
theorem bools (N : Nat) (hN : N ≤ 256) : ∃ cs : Array Value, cs.size = N ∧ (∀ k : Nat, k < N → cs[k]? = some (.bool false)) ∧ ∀ w : World, (Instr.makeSlice 62 (.int .i64 (N : Int)) (.int .i64 (N : Int))).run Tryd.prog w = .ok (.slice (some ⟨w.heap.size, 0, none⟩) N N) (w.alloc (.cells cs 4)) := by
  obtain ⟨ik, hik, zk, sk, yk⟩ := info_parts infoB
  obtain ⟨cs, hcs, hcz, hmk⟩ := made (P := Tryd.prog) 62 4 ik (.bool false) N 1 Tryd.underlying62 hik zk sk (by rfl) (by omega) (by rw [yk]; omega) (by omega)
  exact ⟨cs, by omega, fun k hk => by have := hcz k 0 (.bool false) hk rfl; rwa [Nat.mul_one, Nat.add_zero] at this, hmk⟩

section
variable {w : World} {r g1 g2 N : Nat} {s : Ms} (H : RAt w r g1 g2 N s)
include H
set_option maxHeartbeats 1000000 in
theorem rread_any (k : Int) : Calls Tryd.prog 20 #[.pointer (some ⟨r, 0, none⟩), .int .i64 k] w fun e w' => e = .returned (.int .i64 (addE N k)) ∧ RAt w' r g1 g2 N (rdS N s k) ∧ w.grownBy w' (some g1) := by
  have hc := H.c0
  by_cases hb : k < 0 ∨ (N : Int) ≤ k
  · have HR : Hid (RAt w r g1 g2 N (rdS N s k)) := Lib.hid (by unfold rdS; rw [addE_out hb, if_neg (by decide)]; exact H)
    rw [addE_out hb]
    by_cases h0 : k < 0
    · clear H hb
      go_enter Tryd.func20, Tryd.ntmps20
      go_wp2
      go_ret
      exact ⟨rfl, HR.out, grown_refl _ _⟩
    · have h1 : (N : Int) ≤ k := by omega
      have h2 : decide ((N : Int) ≤ k) = true := by simpa using h1
      have h3 : decide (k < 0) = false := by simp; omega
      clear H hb h0 h1
      go_enter Tryd.func20, Tryd.ntmps20
      go_wp2
      go_ret
      exact ⟨rfl, HR.out, grown_refl _ _⟩
  · have hi : 0 ≤ k ∧ k < (N : Int) := by omega
    have HI := Lib.hid hi
    have HH := Lib.hid H
    rw [addE_in hi]
    unfold rdS
    rw [addE_in hi, if_pos rfl]
    obtain ⟨q, rfl⟩ : ∃ q : Nat, k = (q : Int) := ⟨k.toNat, by omega⟩
    have hq : q < N := by omega
    have hcl := H.rd.cell hq
    have hfz := H.rd.frozen
    have hk1 : (q : Int) < (N : Int) := by omega
    have h2 : decide ((N : Int) ≤ (q : Int)) = false := by simp; omega
    clear H hb hi
    go_enter Tryd.func20, Tryd.ntmps20
    go_wp2
    go_ret
    exact ⟨rfl, HH.out.setr hq, (HH.out.rd.set hq).2⟩
set_option maxHeartbeats 1000000 in
theorem rwrite_any (k : Int) : Calls Tryd.prog 21 #[.pointer (some ⟨r, 0, none⟩), .int .i64 k] w fun e w' => e = .returned (.int .i64 (addE N k)) ∧ RAt w' r g1 g2 N (wrS N s k) ∧ w.grownBy w' (some g2) := by
  have hc := H.c1
  by_cases hb : k < 0 ∨ (N : Int) ≤ k
  · have HR : Hid (RAt w r g1 g2 N (wrS N s k)) := Lib.hid (by unfold wrS; rw [addE_out hb, if_neg (by decide)]; exact H)
    rw [addE_out hb]
    by_cases h0 : k < 0
    · clear H hb
      go_enter Tryd.func21, Tryd.ntmps21
      go_wp2
      go_ret
      exact ⟨rfl, HR.out, grown_refl _ _⟩
    · have h1 : (N : Int) ≤ k := by omega
      have h2 : decide ((N : Int) ≤ k) = true := by simpa using h1
      have h3 : decide (k < 0) = false := by simp; omega
      clear H hb h0 h1
      go_enter Tryd.func21, Tryd.ntmps21
      go_wp2
      go_ret
      exact ⟨rfl, HR.out, grown_refl _ _⟩
  · have hi : 0 ≤ k ∧ k < (N : Int) := by omega
    have HI := Lib.hid hi
    have HH := Lib.hid H
    rw [addE_in hi]
    unfold wrS
    rw [addE_in hi, if_pos rfl]
    obtain ⟨q, rfl⟩ : ∃ q : Nat, k = (q : Int) := ⟨k.toNat, by omega⟩
    have hq : q < N := by omega
    have hcl := H.wt.cell hq
    have hfz := H.wt.frozen
    have hk1 : (q : Int) < (N : Int) := by omega
    have h2 : decide ((N : Int) ≤ (q : Int)) = false := by simp; omega
    clear H hb hi
    go_enter Tryd.func21, Tryd.ntmps21
    go_wp2
    go_ret
    exact ⟨rfl, HH.out.setw hq, (HH.out.wt.set hq).2⟩
set_option maxHeartbeats 1000000 in
theorem rhas_any (k : Int) : Calls Tryd.prog 23 #[.pointer (some ⟨r, 0, none⟩), .int .i64 k] w fun e w' => e = .returned (.tuple #[.bool (s.r k), .bool (s.w k)]) ∧ ∃ n, w' = w.drewN n := by
  have hc := H.c0
  by_cases hb : k < 0 ∨ (N : Int) ≤ k
  · obtain ⟨hr, hw⟩ := dom_out H.dom hb
    rw [hr, hw]
    by_cases h0 : k < 0
    · clear H hb hr hw
      go_enter Tryd.func23, Tryd.ntmps23
      go_wp2
      go_ret2
      exact ⟨rfl, 0, rfl⟩
    · have h1 : (N : Int) ≤ k := by omega
      have h2 : decide ((N : Int) ≤ k) = true := by simpa using h1
      have h3 : decide (k < 0) = false := by simp; omega
      clear H hb h0 h1 hr hw
      go_enter Tryd.func23, Tryd.ntmps23
      go_wp2
      go_ret2
      exact ⟨rfl, 0, rfl⟩
  · have hc1 := H.c1
    obtain ⟨q, rfl⟩ : ∃ q : Nat, k = (q : Int) := ⟨k.toNat, by omega⟩
    have hq : q < N := by omega
    have hcl := H.rd.cell hq
    have hcw := H.wt.cell hq
    have hk1 : (q : Int) < (N : Int) := by omega
    have h2 : decide ((N : Int) ≤ (q : Int)) = false := by simp; omega
    generalize s.r (q : Int) = R at hcl ⊢
    generalize s.w (q : Int) = W' at hcw ⊢
    clear H hb
    go_enter Tryd.func23, Tryd.ntmps23
    go_wp2_with fail
    go_quiet (fail)
    go_wp2_with fail
    go_ret2
    exact ⟨rfl, _, rfl⟩
set_option maxHeartbeats 1000000 in
theorem rmeets_any (kd k : Int) : Calls Tryd.prog 24 #[.pointer (some ⟨r, 0, none⟩), .int .u8 kd, .int .i64 k] w fun e w' => e = .returned (.bool (meets s kd k)) ∧ w.grownBy w' none := by
  have ho := rhas_any H k
  clear H
  unfold meets Ms.any
  generalize s.r k = R at ho ⊢
  generalize s.w k = X at ho ⊢
  have HO := Lib.hid ho
  clear ho
  by_cases h4 : kd = 4
  · subst h4
    cases R <;> cases X
    all_goals
      go_enter Tryd.func24, Tryd.ntmps24
      go_wp2_with (go_at_call 23; ((with_reducible refine HO.out.mono ?_); rintro e w1 ⟨rfl, n, hw1⟩; have HW1 : Hid (w.grownBy w1 none) := Lib.hid (by rw [hw1]; exact grown_drewN (grown_refl _ _) _); clear hw1))
      go_ret
      exact ⟨rfl, HW1.out⟩
  · by_cases h5 : kd = 5
    · subst h5
      clear h4
      cases R <;> cases X
      all_goals
        go_enter Tryd.func24, Tryd.ntmps24
        go_wp2_with (go_at_call 23; ((with_reducible refine HO.out.mono ?_); rintro e w1 ⟨rfl, n, hw1⟩; have HW1 : Hid (w.grownBy w1 none) := Lib.hid (by rw [hw1]; exact grown_drewN (grown_refl _ _) _); clear hw1))
        go_ret
        exact ⟨rfl, HW1.out⟩
    · have e4 : (kd == 4) = false := by simpa using h4
      have e5 : (kd == 5) = false := by simpa using h5
      rw [decide_eq_false h4, decide_eq_false h5]
      clear h4 h5
      go_enter Tryd.func24, Tryd.ntmps24
      go_wp2_with (go_at_call 23; ((with_reducible refine HO.out.mono ?_); rintro e w1 ⟨rfl, n, hw1⟩; have HW1 : Hid (w.grownBy w1 none) := Lib.hid (by rw [hw1]; exact grown_drewN (grown_refl _ _) _); clear hw1))
      go_ret
      exact ⟨rfl, HW1.out⟩
omit H in
theorem keys_has {N : Nat} {s : Ms} {k : Nat} (h : s.any (k : Int) = true) : keys (k + 1) s = keys k s ++ [(k : Int)] := by
  unfold keys; rw [List.range_succ, List.map_append, List.filter_append]; simp [h]
omit H in
theorem keys_not {N : Nat} {s : Ms} {k : Nat} (h : s.any (k : Int) = false) : keys (k + 1) s = keys k s := by
  unfold keys; rw [List.range_succ, List.map_append, List.filter_append]; simp [h]
omit H in
/-- one more number behind those that are there -/
theorem push1 {ops : Array Oper} {rest : List Oper} {o : Oper} {a : Act} {Q : Exit → Act → World → Prop} {w wr : World} (hgd : o.guard = none) (s x : Operand)
    (ho : o.op = .call { callee := .builtin .append, args := #[s, x], argTypes := #[34, 34] }) {v : Value} {l : List Int} (hs : a.eval s = v) (hown : wr.ownsRow w.heap.size 3 1 v l.length (l.map encZ)) (hbe : Below w.heap.size w wr)
    (n : Int) (hx : a.eval x = .slice (some ⟨wr.heap.size, 0, none⟩) 1 1) (hk : l.length ≤ 4194304)
    (h : ∀ v' w', w'.ownsRow w.heap.size 3 1 v' (l ++ [n]).length ((l ++ [n]).map encZ) → Below w.heap.size w w' → wpList Tryd.prog ops Q rest (a.put o.dst v') w') :
    wpList Tryd.prog ops Q (o :: rest) a (wr.alloc (.cells #[.int .i64 n] 3)) := by
  obtain ⟨i0, hi, hz0, hz1, hz2⟩ := info_parts infoI
  have hsz := hbe.size
  refine wpList_append_own _ hgd s x 34 ho w.heap.size 3 i0 (.int .i64 0) 1 8 Tryd.underlying34 hi hz0 hz1 hz2 rfl (by decide) v l.length (l.map encZ) hs (hown.alloc _) ⟨wr.heap.size, 0, none⟩ 1 1 [.int .i64 n] hx rfl ?_ ?_ (by unfold maxLen; omega) (by omega) (by simp; omega) ?_
  · exact cell_one_new _ _ _
  · intro r hr; simp at hr; subst hr; rfl
  · intro v' w' h1 h2 _
    refine h v' w' (by rw [List.map_append, List.length_append]; exact h1) ((hbe.alloc hsz _).grown h2 (by simp; omega) (fun k e => (hown.lt k e).1))
set_option maxHeartbeats 2000000 in
theorem rall_any : Calls Tryd.prog 26 #[.pointer (some ⟨r, 0, none⟩)] w fun e w' => ∃ v, e = .returned v ∧ w'.ownsRow w.heap.size 3 1 v (keys N s).length ((keys N s).map encZ) ∧ w.grownBy w' none := by
  have HH := Lib.hid H
  have hN := H.small
  refine Calls.mono (R := fun e w' => ∃ v, e = .returned v ∧ w'.ownsRow w.heap.size 3 1 v (keys N s).length ((keys N s).map encZ) ∧ Below w.heap.size w w') ?_ (fun e w' ⟨v, he, ho, hb⟩ => ⟨v, he, ho, grown_of_below hb⟩)
  clear H
  go_enter Tryd.func26, Tryd.ntmps26
  go_wp2_with fail
  go_loopw [3, 4] (fun v i wr => ∃ k : Nat, k ≤ N ∧ i = .int .i64 (k : Int) ∧ wr.ownsRow w.heap.size 3 1 v (keys k s).length ((keys k s).map encZ) ∧ Below w.heap.size w wr) (fun _ i _ => N - (intOf i).toNat)
  case atStart => exact ⟨0, by omega, rfl, World.ownsRow_nil _ _ _ _, Below.refl _ _⟩
  case round =>
    obtain ⟨k, hk, rfl, hown, hbe⟩ := hrel
    have HR := HH.out.grown (grown_of_below hbe)
    have hc0 := HR.c0
    by_cases hlt : k < N
    · have hc1 := HR.c1
      have hcl := HR.rd.cell hlt
      have hcw := HR.wt.cell hlt
      have hkl := keys_len k s
      have hl4 : (keys k s).length ≤ 4194304 := by omega
      clear HR
      have hany : s.any (k : Int) = (s.r (k : Int) || s.w (k : Int)) := rfl
      generalize s.r (k : Int) = R at hcl hany
      generalize s.w (k : Int) = X at hcw hany
      cases R with
      | true =>
        have HP := Lib.hid (keys_has (N := N) (k := k) (s := s) (by rw [hany]; rfl))
        clear hany
        go_wp2_with (at_builtin; refine push1 rfl _ _ rfl rfl hown hbe _ rfl hl4 ?_; intro v' w2 hown' hbe2)
        go_roundw
        case rel => exact ⟨k + 1, by omega, by go_num, by rw [HP.out]; exact hown', hbe2⟩
        case measure => simp [intOf]; omega
      | false =>
        cases X with
        | true =>
          have HP := Lib.hid (keys_has (N := N) (k := k) (s := s) (by rw [hany]; rfl))
          clear hany
          go_wp2_with (at_builtin; refine push1 rfl _ _ rfl rfl hown hbe _ rfl hl4 ?_; intro v' w2 hown' hbe2)
          go_roundw
          case rel => exact ⟨k + 1, by omega, by go_num, by rw [HP.out]; exact hown', hbe2⟩
          case measure => simp [intOf]; omega
        | false =>
          have HP := Lib.hid (keys_not (N := N) (k := k) (s := s) (by rw [hany]; rfl))
          clear hany
          go_wp2_with fail
          go_roundw
          case rel => exact ⟨k + 1, by omega, by go_num, by rw [HP.out]; exact hown, hbe⟩
          case measure => simp [intOf]; omega
    · have hkn : k = N := by omega
      subst hkn
      clear HR
      go_wp2_with fail
      go_ret
      exact ⟨_, rfl, hown, hbe⟩
set_option maxHeartbeats 2000000 in
theorem rclear_any : Calls Tryd.prog 22 #[.pointer (some ⟨r, 0, none⟩)] w fun e w' => e = .returned (.tuple #[]) ∧ ∃ h1 h2, RAt w' r h1 h2 N Ms.zero ∧ w.grownBy w' (some r) ∧ w.heap.size ≤ h1 ∧ w.heap.size ≤ h2 := by
  obtain ⟨cs, hcs, hcz, hmk⟩ := bools N H.small
  have hc0 := H.c0
  have hc1 := H.c1
  have hlt := H.lt
  have HH := Lib.hid H
  have HCS := Lib.hid hcs
  have HCZ := Lib.hid hcz
  have hfz := fun j => frozen_of_row _ _ j _ _ H.blk
  clear H hcs hcz
  go_enter Tryd.func22, Tryd.ntmps22
  go_wp2
  refine bodyPost_end (results_none rfl _ _ _) rfl ?_
  have hg : w.grownBy (w.setCells r 0 [.slice (some ⟨w.heap.size, 0, none⟩) N N, .slice (some ⟨w.heap.size + 1, 0, none⟩) N N]) (some r) := grown_setCells w r 0 _
  obtain ⟨cur', q1, q2, q3, q4⟩ := heap_setCells r 64 [.slice (some ⟨w.heap.size, 0, none⟩) N N, .slice (some ⟨w.heap.size + 1, 0, none⟩) N N] 0 w _ HH.out.blk (by simp)
  have hcur : cur' = #[.slice (some ⟨w.heap.size, 0, none⟩) N N, .slice (some ⟨w.heap.size + 1, 0, none⟩) N N] := by
    apply Array.ext_getElem?
    intro i
    match i with
    | 0 => exact q4 0 _ rfl
    | 1 => exact q4 1 _ rfl
    | n + 2 => rw [Array.getElem?_eq_none (by rw [q2]; simp), Array.getElem?_eq_none (by simp)]
  rw [hcur] at q1
  have hsz : (w.setCells r 0 [.slice (some ⟨w.heap.size, 0, none⟩) N N, .slice (some ⟨w.heap.size + 1, 0, none⟩) N N]).heap.size = w.heap.size := by simp [World.setCells, World.size_setCell]
  change (_ ∧ ∃ h1 h2, RAt (((w.setCells r 0 [.slice (some ⟨w.heap.size, 0, none⟩) N N, .slice (some ⟨w.heap.size + 1, 0, none⟩) N N]).alloc (.cells cs 4)).alloc (.cells cs 4)) r h1 h2 N Ms.zero ∧ w.grownBy (((w.setCells r 0 [.slice (some ⟨w.heap.size, 0, none⟩) N N, .slice (some ⟨w.heap.size + 1, 0, none⟩) N N]).alloc (.cells cs 4)).alloc (.cells cs 4)) (some r) ∧ _)
  generalize w.setCells r 0 [.slice (some ⟨w.heap.size, 0, none⟩) N N, .slice (some ⟨w.heap.size + 1, 0, none⟩) N N] = W at hg q1 hsz ⊢
  have hb1 : BAt (W.alloc (.cells cs 4)) w.heap.size N (fun _ => false) := by have := BAt.new W cs N HCS.out HCZ.out; rwa [hsz] at this
  have hb2 : BAt ((W.alloc (.cells cs 4)).alloc (.cells cs 4)) (w.heap.size + 1) N (fun _ => false) := by have := BAt.new (W.alloc (.cells cs 4)) cs N HCS.out HCZ.out; rwa [World.size_alloc, hsz] at this
  refine ⟨rfl, w.heap.size, w.heap.size + 1, ⟨?_, hb1.same (Below.heap_alloc _ _ _ hb1.lt), hb2, by omega, dom_zero _, HH.out.small⟩, ?_, Nat.le_refl _, Nat.le_succ _⟩
  · rw [Below.heap_alloc _ _ _ (by simp; omega), Below.heap_alloc _ _ _ (by omega)]; exact q1
  · exact grown_alloc (grown_alloc hg _) _
end
end Go.Proofs.YtegaalhbebibgaaDoor.mrk
