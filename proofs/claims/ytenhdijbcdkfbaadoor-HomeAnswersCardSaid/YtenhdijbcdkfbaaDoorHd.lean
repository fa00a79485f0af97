/-
  What answer of a home makes of it: contract. No condition but what it names.
  What back of a home makes of it: contract. No condition but what it names.
  What begin of a home makes of it: contract. Condition: the table of de Bruijn's product lies in its variable.
-/
import Derived.Test.YtenhdijbcdkfbaaDoorHcD
namespace Go.Proofs.YtenhdijbcdkfbaaDoor.hh
open Go Go.ChangeShapes Go.WideShapes Go.ChangeAt Go.RowKit
open Go.Proofs.YtenhdijbcdkfbaaDoor.tt (Nt Cfg fits net bare zd usd uses coreOf ok_ends MapAt mput mdel ik NPool NSl Turn flat na nt zn grown_alloc grown_refl grown_trans tyne lt_of)
open Go.Proofs.YtenhdijbcdkfbaaDoor.en (En gets back asked asks free ask_parts may_parts ea)
open Go.Proofs.YtenhdijbcdkfbaaDoor.mm (wi wo ones wo_lt)
set_option linter.unusedVariables false


theorem cr {w : World} {g : Nat} {cs : Array Value} {t : TypeId} {fr : Nat × Nat} (h : w.heap[g]? = some (.cells cs t fr)) (k : Nat) {v : Value} (hv : cs[k]? = some v) : w.cell? ⟨g, k, none⟩ = some v := (cell_of_row _ _ _ _ _ _ h).trans hv
theorem getB_row {H : Hm} {b : Nat} (hb : b < H.mm.length) : pp.getB H.mm (b : Int) = rowOf H b ∧ pp.err (pp.inb H.mm.length (b : Int)) = 0 := by
  have hi : pp.inb H.mm.length (b : Int) = true := decide_eq_true ⟨by omega, by omega⟩
  refine ⟨?_, by rw [hi]; rfl⟩
  unfold pp.getB rowOf
  rw [hi, if_pos rfl, Int.toNat_natCast, List.getD_eq_getElem?_getD, List.getD_eq_getElem?_getD, List.getElem?_eq_getElem hb]
  rfl
theorem rowOf_len {c : Cfg} {H : Hm} (hI : Inv c H) (b : Nat) : (rowOf H b).length = 16 := by
  unfold rowOf
  rw [List.getD_eq_getElem?_getD]
  cases h : H.mm[b]? with
  | none => rfl
  | some r => exact hI.rows r (List.mem_of_getElem? h)
theorem grown_put {a b : World} {g : Nat} (h : a.grownBy b none) (hg : a.heap.size ≤ g) {u v : Value} {i j : Nat} : a.grownBy ((b.setCell ⟨g, i, none⟩ u).setCell ⟨g, j, none⟩ v) none :=
  ⟨h.os, h.tape, h.output, by have := h.size; simp [World.setCell]; omega, fun k hk hn => (Below.heap_setCell _ _ _ _ (show k ≠ g by omega)).trans ((Below.heap_setCell _ _ _ _ (show k ≠ g by omega)).trans (h.block k hk hn))⟩
theorem put_two {w : World} {g : Nat} {a b : Value} {t : TypeId} (h : w.heap[g]? = some (.cells #[a, b] t (0, 0))) (u v : Value) : ((w.setCell ⟨g, 0, none⟩ u).setCell ⟨g, 1, none⟩ v).heap[g]? = some (.cells #[u, v] t (0, 0)) := by
  obtain ⟨cur', q1, q2, q3, q4⟩ := tt.heap_setCells g t [u, v] 0 w #[a, b] h (by simp)
  have e : (w.setCell ⟨g, 0, none⟩ u).setCell ⟨g, 1, none⟩ v = w.setCells g 0 [u, v] := rfl
  rw [e, q1]
  have h0 := q4 0 u rfl
  have h1 := q4 1 v rfl
  have : cur' = #[u, v] := by
    apply Array.ext_getElem?
    intro i
    match i with
    | 0 => simpa using h0
    | 1 => simpa using h1
    | i + 2 => rw [Array.getElem?_eq_none (by rw [q2]; simp), Array.getElem?_eq_none (by simp)]
  rw [this]
/-- A block of words laid into a note that is built. -/
theorem fold_data (x b s : Int) (d : List Int) (h : d.length = 16) : Array.foldl (fun (cs : Array Value) (x : Value × Nat) => cs.setIfInBounds (8 + x.snd) x.fst) #[.int .u8 6, .int .i64 (-1), .int .i64 x, .int .i64 b, .int .u64 0, .int .u8 s, .bool true, .bool false, .int .u32 0, .int .u32 0, .int .u32 0, .int .u32 0, .int .u32 0, .int .u32 0, .int .u32 0, .int .u32 0, .int .u32 0, .int .u32 0, .int .u32 0, .int .u32 0, .int .u32 0, .int .u32 0, .int .u32 0, .int .u32 0] (pp.row d).zipIdx 0 16 = na (dataN x b s d) := by
  match d, h with
  | [d0, d1, d2, d3, d4, d5, d6, d7, d8, d9, d10, d11, d12, d13, d14, d15], h => simp [dataN, na, nt, pp.row, pp.U, tt.U]
theorem nsl_one {w : World} {g : Nat} {n : Nt} (h : w.heap[g]? = some (.cells (na n) 31 (0, 0))) : NSl w (.slice (some ⟨g, 0, none⟩) 1 1) [n] := by
  refine .inr ⟨g, 0, 1, na n, rfl, h, by simp [flat, tt.nt_len], Nat.le_refl _, by unfold maxLen; omega, by rw [tt.na_size]; omega, fun k x hk => ?_⟩
  rw [tt.flat_single] at hk
  rw [Nat.zero_add]
  unfold tt.na
  rw [List.getElem?_toArray]; exact hk
theorem data_le {c : Cfg} (hc : c.may) : c.data ≤ c.bl := by
  have h3 : 1 ≤ c.co ∧ c.co ≤ 16 := tt.hb_bounds (hc.1 0 (by omega))
  have h4 : 1 ≤ c.lo ∧ c.lo ≤ 4 := tt.hb_bounds (hc.1 4 (by omega))
  have := Int.mul_nonneg (show 0 ≤ c.co by omega) (show 0 ≤ c.lo by omega)
  unfold tt.Cfg.data; omega
theorem ok_set {jb : List (Option Jb)} (h : ∀ (b : Nat) (j : Jb), jb[b]? = some (some j) → j.d = decide (j.w = 0)) (b : Nat) (j : Jb) (hj : j.d = decide (j.w = 0)) : ∀ (b' : Nat) (j' : Jb), (jb.set b (some j))[b']? = some (some j') → j'.d = decide (j'.w = 0) := fun b' j' h' => by
  rw [List.getElem?_set] at h'
  by_cases hb : b = b'
  · rw [if_pos hb] at h'
    by_cases hl : b < jb.length
    · rw [if_pos hl] at h'
      have : j = j' := Option.some.inj (Option.some.inj h')
      rw [← this]; exact hj
    · rw [if_neg hl] at h'; cases h'
  · rw [if_neg hb] at h'; exact h b' j' h'
theorem grown_two {a b c : World} {own : Option Nat} (h : a.grownBy b own) (k : b.grownBy c own) : a.grownBy c own :=
  ⟨k.os.trans h.os, k.tape.trans h.tape, k.output.trans h.output, Nat.le_trans h.size k.size, fun i hi hn => (k.block i (Nat.lt_of_lt_of_le hi h.size) hn).trans (h.block i hi hn)⟩
section
variable {w : World} {h : Nat} {c : Cfg} {F : Ft} {H : Hm}
set_option maxRecDepth 1000000 in
set_option maxHeartbeats 4000000 in
theorem answer_any (A : HomeAt w h c F H) (b : Nat) (hb : b < c.data.toNat) (j : Jb) (hj : JobOk c b j) (hw : j.w = 0) : Calls Tryd.prog 58 #[.pointer (some ⟨h, 0, none⟩), .int .i64 (b : Int), .agg (askA j)] w fun e w' => ∃ v, e = .returned v ∧
    HomeAt w' h c F { H with en := H.en.set b (gets (enOf H b) j.a.k j.a.f).1, jb := H.jb.set b (some { j with d := true }) } ∧ NSl w' v [dataN j.a.f b (gets (enOf H b) j.a.k j.a.f).2.1 (rowOf H b)] ∧ Did w w' F F ∧ ∀ k, v.ownBlock = some k → w.heap.size ≤ k := by
  have hask : askA j = #[.int .u8 j.a.k, .int .i64 j.a.f, .int .u32 0, .bool j.r, .int .u64 j.l] := by unfold askA; rw [hw]; rfl
  rw [hask]
  obtain ⟨wb, hwb⟩ : ∃ wb, w.alloc (.cells #[.int .u8 j.a.k, .int .i64 j.a.f, .int .u32 0, .bool j.r, .int .u64 j.l] 80) = wb := ⟨_, rfl⟩
  have hgb : w.grownBy wb none := by rw [← hwb]; exact grown_alloc (grown_refl _ _) _
  have HA : Hid (∀ w', wb.grownBy w' none → HomeAt w' h c F H) := qh fun w' h' => A.grown (grown_trans hgb h')
  have hbx : wb.heap[w.heap.size]? = some (.cells #[.int .u8 j.a.k, .int .i64 j.a.f, .int .u32 0, .bool j.r, .int .u64 j.l] 80 (0, 0)) := by rw [← hwb]; exact heap_alloc_new _ _
  have hbl : b < H.en.length := by rw [A.inv.le]; exact hb
  have hbj : b < H.jb.length := by rw [A.inv.lj]; exact hb
  have hask2 := asks_ask hj.asks hj.kind (ents_of A.inv b)
  have HI1 := qh (A.inv.job b (some j) fun j' e => by cases e; exact hj)
  have HI2 := qh (HI1.out.answer b)
  have hjb : jbOf { H with jb := H.jb.set b (some j) } b = some j := get_jbOf (by show (H.jb.set b (some j))[b]? = _; rw [List.getElem?_set_self hbj])
  have hans : (answer { H with jb := H.jb.set b (some j) } b).1 = { H with en := H.en.set b (gets (enOf H b) j.a.k j.a.f).1, jb := H.jb.set b (some { j with d := true }) } := by
    unfold answer
    rw [hjb]
    simp [enOf]
  rw [hans] at HI2
  have HIE : Hid (Inv c { H with en := H.en.set b (gets (enOf H b) j.a.k j.a.f).1 }) := qh ⟨A.inv.may, HI2.out.le, A.inv.lj, A.inv.lm, A.inv.rows, HI2.out.ents, A.inv.jobs, A.inv.wait⟩
  have HIJ : Hid (∀ (b' : Nat) (j' : Jb), (H.jb.set b (some { j with d := true }))[b']? = some (some j') → j'.d = decide (j'.w = 0)) := qh (ok_set A.ok b _ (by simp [hw]))
  have HUP : Hid (∀ k, mput (hh.und H) (b : Int) (.agg (askA { j with d := true })) k = hh.und { H with jb := H.jb.set b (some { j with d := true }) } k) := qh fun k => und_put hbj { j with d := true } k
  have hask3 : askA { j with d := true } = #[.int .u8 j.a.k, .int .i64 j.a.f, .int .u32 0, .bool j.r, .int .u64 j.l] := hask
  rw [hask3] at HUP
  have HBJ := qh hbj
  have HBM : Hid (b < H.mm.length) := qh (by rw [A.inv.lm]; have h1 := A.inv.may.2; have h2 := data_le A.inv.may; omega)
  have HLH : Hid (h < w.heap.size) := qh A.lt
  have HME : Hid (∀ e, Inv c { H with en := H.en.set b e } → ∀ w', wb.grownBy w' none → _) := qh fun e he w' h' g off cap n hv => (HA.out w' h').setEnt (g := g) (off := off) (cap := cap) (n := n) hv hbl e he
  have hes : (enOf H b).s < 4294967296 := by
    have := (may_parts (o := (enOf H b).o) (s := (enOf H b).s) (ents_of A.inv b)).2.2.1; omega
  have HQ : Hid (∀ w, _) := qh fun w => en.gets_any (enOf H b).o (enOf H b).s j.a.k j.a.f w hes
  have HGE : Hid (gets ⟨(enOf H b).o, (enOf H b).s⟩ j.a.k j.a.f = gets (enOf H b) j.a.k j.a.f) := qh rfl
  unfold en.got at HQ
  rw [HGE.out] at HQ
  obtain ⟨g, off, cap, hev, _⟩ := A.entCells hbl
  have HK : Hid (∀ w', wb.grownBy w' none → (w'.cell? ⟨h, 2, none⟩ = some (.slice (some ⟨g, off, none⟩) H.en.length cap)) ∧ (w'.cell? ⟨g, off + b * 2, none⟩ = some (.int .i64 (enOf H b).o) ∧ w'.cell? ⟨g, off + b * 2 + 1, none⟩ = some (.int .u32 ((enOf H b).s : Int))) ∧ (w'.cell? ⟨w.heap.size, 0, none⟩ = some (.int .u8 j.a.k) ∧ w'.cell? ⟨w.heap.size, 1, none⟩ = some (.int .i64 j.a.f))) := qh fun w' h' => by
    have hA := HA.out w' h'
    obtain ⟨g', off', cap', hev', e0, e1, _⟩ := hA.entCells hbl
    rw [hev] at hev'; cases hev'
    have hr := (h'.block _ (lt_of hbx) (by simp)).trans hbx
    exact ⟨hev ▸ hA.cells.2.2.1, ⟨e0, e1⟩, ⟨cell_of_row _ _ 0 _ _ _ hr, cell_of_row _ _ 1 _ _ _ hr⟩⟩
  have HHW := qh hw
  have HBE := qh hbl
  have HOL : Hid (∀ i, F.own i → i < w.heap.size) := qh fun i hi => A.own_lt hi
  have HOH := qh A.h_own
  have HEV := qh hev
  have HG := qh hgb
  have HBX := qh hbx
  have hlt : (b : Int) < (H.en.length : Int) := by omega
  have hle : (0 : Int) ≤ (b : Int) := by omega
  obtain ⟨q, hq⟩ : ∃ q, q = H.en.length := ⟨_, rfl⟩
  have HQL := qh hq
  rw [← hq] at hlt HK
  have HRW : Hid (∀ w', wb.grownBy w' none → _) := qh fun w' h' => (HA.out w' h').mem
  clear A hgb hbx hbl hbj hj hask2 hask3 hjb hans hes hev hq hb hw hask
  generalize gets (enOf H b) j.a.k j.a.f = r at *
  obtain ⟨⟨ro, rs⟩, rt, re⟩ := r
  generalize enOf H b = eb at *
  obtain ⟨eo, es⟩ := eb
  obtain ⟨⟨k, x, jt, jb0, jst, jss, jhh, jq, jdd, jhd⟩, jw, jd, jr, jl⟩ := j
  dsimp only at *
  go_enter Tryd.func58, Tryd.ntmps58
  go_wp2_with fail
  refine wp_region_held_drew (S := fun w' => wb.grownBy w' none) (by kernel_rfl) (tt.grown_drew (grown_refl _ _)) (fun hHeld => ?_)
  generalize wb.drew = wd at hHeld ⊢
  refine hh.tl 0 ⟨some 13, Op.move (.tmp 0), _, _, _, _⟩ ?v1 rfl ?hy1 ?_
  case hy1 => ((intro w0 hSw; obtain ⟨hs0, ⟨hs1, hs2⟩, ⟨hs3, hs4⟩⟩ := HK.out w0 hSw; go_simp); try (with_reducible rfl))
  try simp only [lay]
  refine hh.tl 1 ⟨some 14, Op.nilCheck (.tmp 13), _, _, _, _⟩ ?v2 rfl ?hy2 ?_
  case hy2 => ((intro w0 hSw; obtain ⟨hs0, ⟨hs1, hs2⟩, ⟨hs3, hs4⟩⟩ := HK.out w0 hSw; go_simp); try (with_reducible rfl))
  try simp only [lay]
  refine hh.tl 2 ⟨some 15, Op.fieldAddr 86 (.tmp 14) 2, _, _, _, _⟩ ?v3 rfl ?hy3 ?_
  case hy3 => ((intro w0 hSw; obtain ⟨hs0, ⟨hs1, hs2⟩, ⟨hs3, hs4⟩⟩ := HK.out w0 hSw; go_simp); try (with_reducible rfl))
  try simp only [lay]
  refine hh.tl 3 ⟨some 16, Op.load 82 (.tmp 15), _, _, _, _⟩ ?v4 rfl ?hy4 ?_
  case hy4 => ((intro w0 hSw; obtain ⟨hs0, ⟨hs1, hs2⟩, ⟨hs3, hs4⟩⟩ := HK.out w0 hSw; go_simp); try (with_reducible rfl))
  try simp only [lay]
  refine hh.tl 4 ⟨some 17, Op.move (.tmp 1), _, _, _, _⟩ ?v5 rfl ?hy5 ?_
  case hy5 => ((intro w0 hSw; obtain ⟨hs0, ⟨hs1, hs2⟩, ⟨hs3, hs4⟩⟩ := HK.out w0 hSw; go_simp); try (with_reducible rfl))
  try simp only [lay]
  refine hh.tl 5 ⟨some 18, Op.indexAddr 82 (.tmp 16) (.tmp 17), _, _, _, _⟩ ?v6 rfl ?hy6 ?_
  case hy6 => ((intro w0 hSw; obtain ⟨hs0, ⟨hs1, hs2⟩, ⟨hs3, hs4⟩⟩ := HK.out w0 hSw; go_simp); try (with_reducible rfl))
  try simp only [lay]
  refine hh.tl 6 ⟨some 19, Op.load 47 (.tmp 18), _, _, _, _⟩ ?v7 rfl ?hy7 ?_
  case hy7 => ((intro w0 hSw; obtain ⟨hs0, ⟨hs1, hs2⟩, ⟨hs3, hs4⟩⟩ := HK.out w0 hSw; go_simp); try (with_reducible rfl))
  try simp only [lay]
  refine hh.tl 7 ⟨some 20, Op.fieldAddr 80 (.tmp 5) 0, _, _, _, _⟩ ?v8 rfl ?hy8 ?_
  case hy8 => ((intro w0 hSw; obtain ⟨hs0, ⟨hs1, hs2⟩, ⟨hs3, hs4⟩⟩ := HK.out w0 hSw; go_simp); try (with_reducible rfl))
  try simp only [lay]
  refine hh.tl 8 ⟨some 21, Op.load 5 (.tmp 20), _, _, _, _⟩ ?v9 rfl ?hy9 ?_
  case hy9 => ((intro w0 hSw; obtain ⟨hs0, ⟨hs1, hs2⟩, ⟨hs3, hs4⟩⟩ := HK.out w0 hSw; go_simp); try (with_reducible rfl))
  try simp only [lay]
  refine hh.tl 9 ⟨some 22, Op.fieldAddr 80 (.tmp 5) 1, _, _, _, _⟩ ?v10 rfl ?hy10 ?_
  case hy10 => ((intro w0 hSw; obtain ⟨hs0, ⟨hs1, hs2⟩, ⟨hs3, hs4⟩⟩ := HK.out w0 hSw; go_simp); try (with_reducible rfl))
  try simp only [lay]
  refine hh.tl 10 ⟨some 23, Op.load 3 (.tmp 22), _, _, _, _⟩ ?v11 rfl ?hy11 ?_
  case hy11 => ((intro w0 hSw; obtain ⟨hs0, ⟨hs1, hs2⟩, ⟨hs3, hs4⟩⟩ := HK.out w0 hSw; go_simp); try (with_reducible rfl))
  try simp only [lay]
  have HD0 := qh hHeld
  refine wpAnyH_ready (rs := [11, 16]) (by kernel_rfl) (by simp) ?_
  refine AllReadyH.cons (o := ⟨some 24, Op.call { callee := Callee.value (.func 71), args := #[(.tmp 19), (.tmp 21), (.tmp 23)], argTypes := #[47, 5, 3] }, _, _, _, _⟩) rfl (fun K hK => ?_) (AllReadyH.cons (o := ⟨some 7, Op.alloc 47, _, _, _, _⟩) rfl (fun K hK => ?_) AllReadyH.nil)
  · skip
    go_simp
    (with_reducible refine (HQ.out _).mono ?_); rintro e wg ⟨rfl, hg5⟩; have HGG := qh (grown_trans hHeld hg5)
    go_wp2_with fail
    refine hK.out _ _ HGG.out (fun hHeld => ?_)
    clear hK K
    try simp only [lay]
    refine hh.tl 12 ⟨some 12, Op.move (.tmp 24), _, _, _, _⟩ ?v12 rfl ?hy12 ?_
    case hy12 => ((intro w0 hSw; go_simp); try (with_reducible rfl))
    try simp only [lay]
    refine hh.tl 13 ⟨some 25, Op.extract (.tmp 12) 0, _, _, _, _⟩ ?v13 rfl ?hy13 ?_
    case hy13 => ((intro w0 hSw; go_simp); try (with_reducible rfl))
    try simp only [lay]
    refine hh.tl 14 ⟨some 26, Op.extract (.tmp 12) 1, _, _, _, _⟩ ?v14 rfl ?hy14 ?_
    case hy14 => ((intro w0 hSw; go_simp); try (with_reducible rfl))
    try simp only [lay]
    refine hh.tl 15 ⟨some 27, Op.extract (.tmp 12) 2, _, _, _, _⟩ ?v15 rfl ?hy15 ?_
    case hy15 => ((intro w0 hSw; go_simp); try (with_reducible rfl))
    try simp only [lay]
    refine rd1 (i := 16) (o := ⟨some 7, Op.alloc 47, _, _, _, _⟩) rfl (fun K hK => ?_)
    go_simp
    refine hK.out _ _ (grown_alloc HGG.out _) (fun hHeld => ?_)
    clear hK K
    try simp only [lay]
    refine rd1 (i := 17) (o := ⟨none, Op.store 47 (.tmp 7) (.tmp 25), _, _, _, _⟩) rfl (fun K hK => ?_)
    go_simp
    refine hK.out _ _ (grown_alloc HGG.out _) (fun hHeld => ?_)
    clear hK K
    try simp only [lay]
    refine hh.tl 18 ⟨some 8, Op.assign (.tmp 26), _, _, _, _⟩ ?v16 rfl ?hy16 ?_
    case hy16 => ((intro w0 hSw; go_simp); try (with_reducible rfl))
    try simp only [lay]
    refine hh.tl 19 ⟨some 9, Op.assign (.tmp 27), _, _, _, _⟩ ?v17 rfl ?hy17 ?_
    case hy17 => ((intro w0 hSw; go_simp); try (with_reducible rfl))
    try simp only [lay]
    refine wpAnyH_done (by kernel_rfl) ?_ _
    clear hHeld
    go_wp2_with fail
    obtain ⟨wX, hX⟩ : ∃ wX, wg.alloc (.cells #[.int .i64 ro, .int .u32 (rs : Int)] 47) = wX := ⟨_, rfl⟩
    have hgd : wb.grownBy wX.drew none := by rw [← hX]; exact tt.grown_drew (grown_alloc HGG.out _)
    have h7 : wX.drew.heap[wg.heap.size]? = some (.cells #[.int .i64 ro, .int .u32 (rs : Int)] 47 (0, 0)) := by rw [← hX]; exact heap_alloc_new _ _
    have HW7 : Hid (wb.heap.size ≤ wg.heap.size) := qh HGG.out.size
    rw [hX]
    obtain ⟨B7, hB⟩ : ∃ B, wg.heap.size = B := ⟨_, rfl⟩
    rw [hB] at h7 HW7 ⊢
    clear hB hX
    have HKF : Hid (∀ w' : World, (w'.heap[h]? = some (.cells #[.int .i64 c.co, .pointer (some ⟨F.mb, 0, none⟩), F.ev, .map (some F.ub), .pointer (some ⟨F.pb, 0, none⟩)] 86 (0, 0)) ∧ w'.heap[B7]? = some (.cells #[.int .i64 ro, .int .u32 (rs : Int)] 47 (0, 0)) ∧ w'.heap[w.heap.size]? = some (.cells #[.int .u8 k, .int .i64 x, .int .u32 0, .bool jr, .int .u64 jl] 80 (0, 0))) → (w'.cell? ⟨h, 2, none⟩ = some (.slice (some ⟨g, off, none⟩) q cap) ∧ w'.cell? ⟨h, 3, none⟩ = some (.map (some F.ub))) ∧ (w'.cell? ⟨B7, 0, none⟩ = some (.int .i64 ro) ∧ w'.cell? ⟨B7, 1, none⟩ = some (.int .u32 (rs : Int))) ∧ (w'.cell? ⟨w.heap.size, 0, none⟩ = some (.int .u8 k) ∧ w'.cell? ⟨w.heap.size, 1, none⟩ = some (.int .i64 x) ∧ w'.cell? ⟨w.heap.size, 2, none⟩ = some (.int .u32 0) ∧ w'.cell? ⟨w.heap.size, 3, none⟩ = some (.bool jr) ∧ w'.cell? ⟨w.heap.size, 4, none⟩ = some (.int .u64 jl))) := qh fun w' ⟨e1, e2, e3⟩ => ⟨⟨by have := cr e1 2 rfl; rw [HEV.out, ← HQL.out] at this; exact this, cr e1 3 rfl⟩, ⟨cr e2 0 rfl, cr e2 1 rfl⟩, ⟨cr e3 0 rfl, cr e3 1 rfl, cr e3 2 rfl, cr e3 3 rfl, cr e3 4 rfl⟩⟩
    have HKP : Hid (∀ w1 w2 : World, Did w1 w2 F F → (w1.heap[h]? = some (.cells #[.int .i64 c.co, .pointer (some ⟨F.mb, 0, none⟩), F.ev, .map (some F.ub), .pointer (some ⟨F.pb, 0, none⟩)] 86 (0, 0)) ∧ w1.heap[B7]? = some (.cells #[.int .i64 ro, .int .u32 (rs : Int)] 47 (0, 0)) ∧ w1.heap[w.heap.size]? = some (.cells #[.int .u8 k, .int .i64 x, .int .u32 0, .bool jr, .int .u64 jl] 80 (0, 0))) → (w2.heap[h]? = some (.cells #[.int .i64 c.co, .pointer (some ⟨F.mb, 0, none⟩), F.ev, .map (some F.ub), .pointer (some ⟨F.pb, 0, none⟩)] 86 (0, 0)) ∧ w2.heap[B7]? = some (.cells #[.int .i64 ro, .int .u32 (rs : Int)] 47 (0, 0)) ∧ w2.heap[w.heap.size]? = some (.cells #[.int .u8 k, .int .i64 x, .int .u32 0, .bool jr, .int .u64 jl] 80 (0, 0)))) := qh fun w1 w2 d ⟨e1, e2, e3⟩ => ⟨d.heap e1 HOH.out, d.heap e2 (fun e => by have := HOL.out _ e; have := HW7.out; have := HG.out.size; omega), d.heap e3 (fun e => by have := HOL.out _ e; omega)⟩
    refine wp_region_held_drew (S := fun w' => w'.heap[h]? = some (.cells #[.int .i64 c.co, .pointer (some ⟨F.mb, 0, none⟩), F.ev, .map (some F.ub), .pointer (some ⟨F.pb, 0, none⟩)] 86 (0, 0)) ∧ w'.heap[B7]? = some (.cells #[.int .i64 ro, .int .u32 (rs : Int)] 47 (0, 0)) ∧ w'.heap[w.heap.size]? = some (.cells #[.int .u8 k, .int .i64 x, .int .u32 0, .bool jr, .int .u64 jl] 80 (0, 0))) (by kernel_rfl) ⟨(HA.out _ hgd).blk, h7, (hgd.block _ (lt_of HBX.out) (by simp)).trans HBX.out⟩ (fun hHeld => ?_)
    generalize wX.drew = wd2 at hgd h7 hHeld ⊢
    refine hh.tl 0 ⟨some 28, Op.move (.tmp 0), _, _, _, _⟩ ?v18 rfl ?hy18 ?_
    case hy18 => ((intro w0 hSw; obtain ⟨⟨hs0, hs1⟩, ⟨hs2, hs3⟩, ⟨hs4, hs5, hs6, hs7, hs8⟩⟩ := HKF.out w0 hSw; go_simp); try (with_reducible rfl))
    try simp only [lay]
    refine hh.tl 1 ⟨some 29, Op.nilCheck (.tmp 28), _, _, _, _⟩ ?v19 rfl ?hy19 ?_
    case hy19 => ((intro w0 hSw; obtain ⟨⟨hs0, hs1⟩, ⟨hs2, hs3⟩, ⟨hs4, hs5, hs6, hs7, hs8⟩⟩ := HKF.out w0 hSw; go_simp); try (with_reducible rfl))
    try simp only [lay]
    refine hh.tl 2 ⟨some 30, Op.fieldAddr 86 (.tmp 29) 2, _, _, _, _⟩ ?v20 rfl ?hy20 ?_
    case hy20 => ((intro w0 hSw; obtain ⟨⟨hs0, hs1⟩, ⟨hs2, hs3⟩, ⟨hs4, hs5, hs6, hs7, hs8⟩⟩ := HKF.out w0 hSw; go_simp); try (with_reducible rfl))
    try simp only [lay]
    refine hh.tl 3 ⟨some 31, Op.load 82 (.tmp 30), _, _, _, _⟩ ?v21 rfl ?hy21 ?_
    case hy21 => ((intro w0 hSw; obtain ⟨⟨hs0, hs1⟩, ⟨hs2, hs3⟩, ⟨hs4, hs5, hs6, hs7, hs8⟩⟩ := HKF.out w0 hSw; go_simp); try (with_reducible rfl))
    try simp only [lay]
    refine hh.tl 4 ⟨some 32, Op.move (.tmp 1), _, _, _, _⟩ ?v22 rfl ?hy22 ?_
    case hy22 => ((intro w0 hSw; obtain ⟨⟨hs0, hs1⟩, ⟨hs2, hs3⟩, ⟨hs4, hs5, hs6, hs7, hs8⟩⟩ := HKF.out w0 hSw; go_simp); try (with_reducible rfl))
    try simp only [lay]
    refine hh.tl 5 ⟨some 33, Op.move (.tmp 0), _, _, _, _⟩ ?v23 rfl ?hy23 ?_
    case hy23 => ((intro w0 hSw; obtain ⟨⟨hs0, hs1⟩, ⟨hs2, hs3⟩, ⟨hs4, hs5, hs6, hs7, hs8⟩⟩ := HKF.out w0 hSw; go_simp); try (with_reducible rfl))
    try simp only [lay]
    refine hh.tl 6 ⟨some 34, Op.nilCheck (.tmp 33), _, _, _, _⟩ ?v24 rfl ?hy24 ?_
    case hy24 => ((intro w0 hSw; obtain ⟨⟨hs0, hs1⟩, ⟨hs2, hs3⟩, ⟨hs4, hs5, hs6, hs7, hs8⟩⟩ := HKF.out w0 hSw; go_simp); try (with_reducible rfl))
    try simp only [lay]
    refine hh.tl 7 ⟨some 35, Op.fieldAddr 86 (.tmp 34) 3, _, _, _, _⟩ ?v25 rfl ?hy25 ?_
    case hy25 => ((intro w0 hSw; obtain ⟨⟨hs0, hs1⟩, ⟨hs2, hs3⟩, ⟨hs4, hs5, hs6, hs7, hs8⟩⟩ := HKF.out w0 hSw; go_simp); try (with_reducible rfl))
    try simp only [lay]
    refine hh.tl 8 ⟨some 36, Op.load 83 (.tmp 35), _, _, _, _⟩ ?v26 rfl ?hy26 ?_
    case hy26 => ((intro w0 hSw; obtain ⟨⟨hs0, hs1⟩, ⟨hs2, hs3⟩, ⟨hs4, hs5, hs6, hs7, hs8⟩⟩ := HKF.out w0 hSw; go_simp); try (with_reducible rfl))
    try simp only [lay]
    refine hh.tl 9 ⟨some 37, Op.move (.tmp 1), _, _, _, _⟩ ?v27 rfl ?hy27 ?_
    case hy27 => ((intro w0 hSw; obtain ⟨⟨hs0, hs1⟩, ⟨hs2, hs3⟩, ⟨hs4, hs5, hs6, hs7, hs8⟩⟩ := HKF.out w0 hSw; go_simp); try (with_reducible rfl))
    try simp only [lay]
    refine hh.tl 10 ⟨some 38, Op.load 47 (.tmp 7), _, _, _, _⟩ ?v28 rfl ?hy28 ?_
    case hy28 => ((intro w0 hSw; obtain ⟨⟨hs0, hs1⟩, ⟨hs2, hs3⟩, ⟨hs4, hs5, hs6, hs7, hs8⟩⟩ := HKF.out w0 hSw; go_simp); try (with_reducible rfl))
    try simp only [lay]
    refine hh.tl 11 ⟨some 39, Op.load 80 (.tmp 5), _, _, _, _⟩ ?v29 rfl ?hy29 ?_
    case hy29 => ((intro w0 hSw; obtain ⟨⟨hs0, hs1⟩, ⟨hs2, hs3⟩, ⟨hs4, hs5, hs6, hs7, hs8⟩⟩ := HKF.out w0 hSw; go_simp); try (with_reducible rfl))
    try simp only [lay]
    refine hh.tl 12 ⟨some 40, Op.indexAddr 82 (.tmp 31) (.tmp 32), _, _, _, _⟩ ?v30 rfl ?hy30 ?_
    case hy30 => ((intro w0 hSw; obtain ⟨⟨hs0, hs1⟩, ⟨hs2, hs3⟩, ⟨hs4, hs5, hs6, hs7, hs8⟩⟩ := HKF.out w0 hSw; go_simp); try (with_reducible rfl))
    try simp only [lay]
    have hAd := HA.out _ hgd
    obtain ⟨hAs, hgs⟩ := HME.out _ HIE.out _ hgd g off cap _ HEV.out
    obtain ⟨ws, hws⟩ : ∃ ws, (wd2.setCell ⟨g, off + b * 2, none⟩ (.int .i64 ro)).setCell ⟨g, off + b * 2 + 1, none⟩ (.int .u32 (rs : Int)) = ws := ⟨_, rfl⟩
    obtain ⟨g', off', cap', hev', c0, c1, f0, f1⟩ := hAd.entCells HBE.out
    rw [HEV.out] at hev'; cases hev'
    dsimp only at hAs hgs
    rw [hws] at hAs hgs
    obtain ⟨v0, st, w1, hme, hg1, hz1, hst⟩ := tt.run_entry_map Tryd.underlying83 Tryd.underlying3 hAs.und (zeroAsk ws) (b : Int)
    obtain ⟨w3, hes, hM3, hg3, hz3⟩ := hst (.agg #[.int .u8 k, .int .i64 x, .int .u32 0, .bool jr, .int .u64 jl]) w1 rfl
    have hA3 := hAs.setUnd hM3 (grown_two hg1 hg3) HUP.out HI2.out HIJ.out
    have hd1 : Did wd2 ws F F := Did.of_own hgs fun i e => .inr (.inl (by cases e; rw [HEV.out]; rfl))
    have hd2 : Did ws w1 F F := Did.of_own hg1 fun i e => .inr (.inr (.inl (Option.some.inj e).symm))
    have hd3 : Did w1 w3 F F := Did.of_own hg3 fun i e => .inr (.inr (.inl (Option.some.inj e).symm))
    have HK1 := qh (HKP.out _ _ hd1 hHeld)
    have HK2 := qh (HKP.out _ _ hd2 HK1.out)
    have HK3 := qh (HKP.out _ _ hd3 HK2.out)
    have HA3 := qh hA3
    have HD3 := qh (((Did.of_grown F hgd).trans hd1).trans (hd2.trans hd3))
    have HWS := qh hws
    clear hAd hAs hgs hst hM3 hA3 hd1 hd2 hd3 hg1 hg3 hz1 hz3 hws
    refine rd1 (i := 13) (o := ⟨none, Op.store 47 (.tmp 40) (.tmp 38), _, _, _, _⟩) rfl (fun K hK => ?_)
    go_simp
    rw [HWS.out]
    refine hK.out _ _ HK1.out (fun hHeld => ?_)
    clear hK K
    try simp only [lay]
    refine rd1 (i := 14) (o := ⟨some 41, Op.mapEntry 83 (.tmp 36) (.tmp 37), _, _, _, _⟩) rfl (fun K hK => ?_)
    go_simp
    refine hK.out _ _ HK2.out (fun hHeld => ?_)
    clear hK K
    try simp only [lay]
    refine hh.tl 15 ⟨some 42, Op.extract (.tmp 41) 1, _, _, _, _⟩ ?v31 rfl ?hy31 ?_
    case hy31 => ((intro w0 hSw; go_simp); try (with_reducible rfl))
    try simp only [lay]
    refine rd1 (i := 16) (o := ⟨none, Op.entryStore 83 (.tmp 36) (.tmp 42) (.tmp 39), _, _, _, _⟩) rfl (fun K hK => ?_)
    go_simp
    refine hK.out _ _ HK3.out (fun hHeld => ?_)
    clear hK K
    try simp only [lay]
    refine wpAnyH_done (by kernel_rfl) ?_ _
    clear hHeld hme hes
    have hc1 := HA3.out.cells.2.1
    have HBL := qh (pp.block_any HA3.out.mem (b : Int))
    rw [(getB_row HBM.out).1, (getB_row HBM.out).2] at HBL
    have HRL := qh (rowOf_len HI1.out b)
    have HRO : Hid (rowOf { H with jb := H.jb.set b (some ⟨⟨k, x, jt, jb0, jst, jss, jhh, jq, jdd, jhd⟩, jw, jd, jr, jl⟩) } b = rowOf H b) := qh rfl
    rw [HRO.out] at HRL
    obtain ⟨rw0, hrw⟩ : ∃ r, r = rowOf H b := ⟨_, rfl⟩
    rw [← hrw] at HBL HRL
    have HRW0 := qh hrw
    have hrs : (pp.row rw0).size = 16 := by rw [pp.row_size]; exact HRL.out
    have hfd := fold_data x b rt rw0 HRL.out
    clear hrw
    have HN : Hid (∀ x s, _) := qh fun (x s : Int) => tt.na_size (dataN x b s rw0)
    have HN2 : Hid (∀ x s, _) := qh fun (x s : Int) => tt.build_na (dataN x b s rw0)
    have hn1 := HN.out x rt
    have hn2 := HN2.out x rt
    have HW3 : Hid (w.heap.size < w3.heap.size) := qh (lt_of HK3.out.2.2)
    go_wp2_with (first
      | (go_at_call 29; ((with_reducible refine HBL.out.mono ?_); rintro e w4 ⟨rfl, hg4⟩; have hx4 := hg4.cell (cr HK3.out.2.2 1 rfl) (by simp); have hl4 : w.heap.size < w4.heap.size := Nat.lt_of_lt_of_le HW3.out hg4.size; have hl5 : ¬ w.heap.size = w4.heap.size := Nat.ne_of_lt hl4; have HG4 := qh hg4; clear hg4))
      | ((with_reducible refine pp.store_new' rw0 _ _ ?_ ?_ HRL.out ?_); (rfl); (rfl))
      | ((with_reducible refine pp.load_any rw0 _ w4.heap.size ?_ (heap_alloc_new _ _) HRL.out ?_); (rfl)))
    have hgf : w3.grownBy ((w4.alloc (.cells (pp.row rw0) 29)).alloc (.cells (na (dataN x b rt rw0)) 31)) none := grown_alloc (grown_alloc HG4.out _) _
    go_ret
    refine ⟨_, rfl, HA3.out.grown hgf, ?_, ((Did.of_grown F HG.out).trans HD3.out).trans (Did.of_grown F hgf), fun k hk => ?_⟩
    · rw [← HRW0.out]
      exact nsl_one (heap_new2 _ _ _ _)
    · have h1 := HW3.out
      have h2 := HG4.out.size
      simp [Value.ownBlock] at hk
      omega
  · skip
    go_simp
    refine hK.out _ _ (grown_alloc HD0.out _) (fun hHeld => ?_)
    clear hK K
    try simp only [lay]
    refine rd1 (i := 11) (o := ⟨some 24, Op.call { callee := Callee.value (.func 71), args := #[(.tmp 19), (.tmp 21), (.tmp 23)], argTypes := #[47, 5, 3] }, _, _, _, _⟩) rfl (fun K hK => ?_)
    go_simp
    (with_reducible refine (HQ.out _).mono ?_); rintro e wg ⟨rfl, hg5⟩; have HGG := qh (grown_trans hHeld hg5); have HZ7 := qh ((hg5.block wd.heap.size (by simp) (by simp)).trans (heap_alloc_new _ _))
    go_wp2_with fail
    refine hK.out _ _ HGG.out (fun hHeld => ?_)
    clear hK K
    try simp only [lay]
    refine hh.tl 12 ⟨some 12, Op.move (.tmp 24), _, _, _, _⟩ ?v32 rfl ?hy32 ?_
    case hy32 => ((intro w0 hSw; go_simp); try (with_reducible rfl))
    try simp only [lay]
    refine hh.tl 13 ⟨some 25, Op.extract (.tmp 12) 0, _, _, _, _⟩ ?v33 rfl ?hy33 ?_
    case hy33 => ((intro w0 hSw; go_simp); try (with_reducible rfl))
    try simp only [lay]
    refine hh.tl 14 ⟨some 26, Op.extract (.tmp 12) 1, _, _, _, _⟩ ?v34 rfl ?hy34 ?_
    case hy34 => ((intro w0 hSw; go_simp); try (with_reducible rfl))
    try simp only [lay]
    refine hh.tl 15 ⟨some 27, Op.extract (.tmp 12) 2, _, _, _, _⟩ ?v35 rfl ?hy35 ?_
    case hy35 => ((intro w0 hSw; go_simp); try (with_reducible rfl))
    try simp only [lay]
    have z0 := cr HZ7.out 0 rfl
    have z1 := cr HZ7.out 1 rfl
    have zf0 : wg.frozen? ⟨wd.heap.size, 0, none⟩ = false := by simp [World.frozen?, HZ7.out]
    have zf1 : wg.frozen? ⟨wd.heap.size, 1, none⟩ = false := by simp [World.frozen?, HZ7.out]
    refine rd1 (i := 17) (o := ⟨none, Op.store 47 (.tmp 7) (.tmp 25), _, _, _, _⟩) rfl (fun K hK => ?_)
    go_simp
    refine hK.out _ _ (grown_put HGG.out HD0.out.size) (fun hHeld => ?_)
    clear hK K
    try simp only [lay]
    refine hh.tl 18 ⟨some 8, Op.assign (.tmp 26), _, _, _, _⟩ ?v36 rfl ?hy36 ?_
    case hy36 => ((intro w0 hSw; go_simp); try (with_reducible rfl))
    try simp only [lay]
    refine hh.tl 19 ⟨some 9, Op.assign (.tmp 27), _, _, _, _⟩ ?v37 rfl ?hy37 ?_
    case hy37 => ((intro w0 hSw; go_simp); try (with_reducible rfl))
    try simp only [lay]
    refine wpAnyH_done (by kernel_rfl) ?_ _
    clear hHeld z0 z1 zf0 zf1
    go_wp2_with fail
    obtain ⟨wX, hX⟩ : ∃ wX, (wg.setCell ⟨wd.heap.size, 0, none⟩ (.int .i64 ro)).setCell ⟨wd.heap.size, 1, none⟩ (.int .u32 (rs : Int)) = wX := ⟨_, rfl⟩
    have hgd : wb.grownBy wX.drew none := by rw [← hX]; exact tt.grown_drew (grown_put HGG.out HD0.out.size)
    have h7 : wX.drew.heap[wd.heap.size]? = some (.cells #[.int .i64 ro, .int .u32 (rs : Int)] 47 (0, 0)) := by rw [← hX]; exact put_two HZ7.out _ _
    have HW7 : Hid (wb.heap.size ≤ wd.heap.size) := qh HD0.out.size
    rw [hX]
    obtain ⟨B7, hB⟩ : ∃ B, wd.heap.size = B := ⟨_, rfl⟩
    rw [hB] at h7 HW7 ⊢
    clear hB hX
    have HKF : Hid (∀ w' : World, (w'.heap[h]? = some (.cells #[.int .i64 c.co, .pointer (some ⟨F.mb, 0, none⟩), F.ev, .map (some F.ub), .pointer (some ⟨F.pb, 0, none⟩)] 86 (0, 0)) ∧ w'.heap[B7]? = some (.cells #[.int .i64 ro, .int .u32 (rs : Int)] 47 (0, 0)) ∧ w'.heap[w.heap.size]? = some (.cells #[.int .u8 k, .int .i64 x, .int .u32 0, .bool jr, .int .u64 jl] 80 (0, 0))) → (w'.cell? ⟨h, 2, none⟩ = some (.slice (some ⟨g, off, none⟩) q cap) ∧ w'.cell? ⟨h, 3, none⟩ = some (.map (some F.ub))) ∧ (w'.cell? ⟨B7, 0, none⟩ = some (.int .i64 ro) ∧ w'.cell? ⟨B7, 1, none⟩ = some (.int .u32 (rs : Int))) ∧ (w'.cell? ⟨w.heap.size, 0, none⟩ = some (.int .u8 k) ∧ w'.cell? ⟨w.heap.size, 1, none⟩ = some (.int .i64 x) ∧ w'.cell? ⟨w.heap.size, 2, none⟩ = some (.int .u32 0) ∧ w'.cell? ⟨w.heap.size, 3, none⟩ = some (.bool jr) ∧ w'.cell? ⟨w.heap.size, 4, none⟩ = some (.int .u64 jl))) := qh fun w' ⟨e1, e2, e3⟩ => ⟨⟨by have := cr e1 2 rfl; rw [HEV.out, ← HQL.out] at this; exact this, cr e1 3 rfl⟩, ⟨cr e2 0 rfl, cr e2 1 rfl⟩, ⟨cr e3 0 rfl, cr e3 1 rfl, cr e3 2 rfl, cr e3 3 rfl, cr e3 4 rfl⟩⟩
    have HKP : Hid (∀ w1 w2 : World, Did w1 w2 F F → (w1.heap[h]? = some (.cells #[.int .i64 c.co, .pointer (some ⟨F.mb, 0, none⟩), F.ev, .map (some F.ub), .pointer (some ⟨F.pb, 0, none⟩)] 86 (0, 0)) ∧ w1.heap[B7]? = some (.cells #[.int .i64 ro, .int .u32 (rs : Int)] 47 (0, 0)) ∧ w1.heap[w.heap.size]? = some (.cells #[.int .u8 k, .int .i64 x, .int .u32 0, .bool jr, .int .u64 jl] 80 (0, 0))) → (w2.heap[h]? = some (.cells #[.int .i64 c.co, .pointer (some ⟨F.mb, 0, none⟩), F.ev, .map (some F.ub), .pointer (some ⟨F.pb, 0, none⟩)] 86 (0, 0)) ∧ w2.heap[B7]? = some (.cells #[.int .i64 ro, .int .u32 (rs : Int)] 47 (0, 0)) ∧ w2.heap[w.heap.size]? = some (.cells #[.int .u8 k, .int .i64 x, .int .u32 0, .bool jr, .int .u64 jl] 80 (0, 0)))) := qh fun w1 w2 d ⟨e1, e2, e3⟩ => ⟨d.heap e1 HOH.out, d.heap e2 (fun e => by have := HOL.out _ e; have := HW7.out; have := HG.out.size; omega), d.heap e3 (fun e => by have := HOL.out _ e; omega)⟩
    refine wp_region_held_drew (S := fun w' => w'.heap[h]? = some (.cells #[.int .i64 c.co, .pointer (some ⟨F.mb, 0, none⟩), F.ev, .map (some F.ub), .pointer (some ⟨F.pb, 0, none⟩)] 86 (0, 0)) ∧ w'.heap[B7]? = some (.cells #[.int .i64 ro, .int .u32 (rs : Int)] 47 (0, 0)) ∧ w'.heap[w.heap.size]? = some (.cells #[.int .u8 k, .int .i64 x, .int .u32 0, .bool jr, .int .u64 jl] 80 (0, 0))) (by kernel_rfl) ⟨(HA.out _ hgd).blk, h7, (hgd.block _ (lt_of HBX.out) (by simp)).trans HBX.out⟩ (fun hHeld => ?_)
    generalize wX.drew = wd2 at hgd h7 hHeld ⊢
    refine hh.tl 0 ⟨some 28, Op.move (.tmp 0), _, _, _, _⟩ ?v38 rfl ?hy38 ?_
    case hy38 => ((intro w0 hSw; obtain ⟨⟨hs0, hs1⟩, ⟨hs2, hs3⟩, ⟨hs4, hs5, hs6, hs7, hs8⟩⟩ := HKF.out w0 hSw; go_simp); try (with_reducible rfl))
    try simp only [lay]
    refine hh.tl 1 ⟨some 29, Op.nilCheck (.tmp 28), _, _, _, _⟩ ?v39 rfl ?hy39 ?_
    case hy39 => ((intro w0 hSw; obtain ⟨⟨hs0, hs1⟩, ⟨hs2, hs3⟩, ⟨hs4, hs5, hs6, hs7, hs8⟩⟩ := HKF.out w0 hSw; go_simp); try (with_reducible rfl))
    try simp only [lay]
    refine hh.tl 2 ⟨some 30, Op.fieldAddr 86 (.tmp 29) 2, _, _, _, _⟩ ?v40 rfl ?hy40 ?_
    case hy40 => ((intro w0 hSw; obtain ⟨⟨hs0, hs1⟩, ⟨hs2, hs3⟩, ⟨hs4, hs5, hs6, hs7, hs8⟩⟩ := HKF.out w0 hSw; go_simp); try (with_reducible rfl))
    try simp only [lay]
    refine hh.tl 3 ⟨some 31, Op.load 82 (.tmp 30), _, _, _, _⟩ ?v41 rfl ?hy41 ?_
    case hy41 => ((intro w0 hSw; obtain ⟨⟨hs0, hs1⟩, ⟨hs2, hs3⟩, ⟨hs4, hs5, hs6, hs7, hs8⟩⟩ := HKF.out w0 hSw; go_simp); try (with_reducible rfl))
    try simp only [lay]
    refine hh.tl 4 ⟨some 32, Op.move (.tmp 1), _, _, _, _⟩ ?v42 rfl ?hy42 ?_
    case hy42 => ((intro w0 hSw; obtain ⟨⟨hs0, hs1⟩, ⟨hs2, hs3⟩, ⟨hs4, hs5, hs6, hs7, hs8⟩⟩ := HKF.out w0 hSw; go_simp); try (with_reducible rfl))
    try simp only [lay]
    refine hh.tl 5 ⟨some 33, Op.move (.tmp 0), _, _, _, _⟩ ?v43 rfl ?hy43 ?_
    case hy43 => ((intro w0 hSw; obtain ⟨⟨hs0, hs1⟩, ⟨hs2, hs3⟩, ⟨hs4, hs5, hs6, hs7, hs8⟩⟩ := HKF.out w0 hSw; go_simp); try (with_reducible rfl))
    try simp only [lay]
    refine hh.tl 6 ⟨some 34, Op.nilCheck (.tmp 33), _, _, _, _⟩ ?v44 rfl ?hy44 ?_
    case hy44 => ((intro w0 hSw; obtain ⟨⟨hs0, hs1⟩, ⟨hs2, hs3⟩, ⟨hs4, hs5, hs6, hs7, hs8⟩⟩ := HKF.out w0 hSw; go_simp); try (with_reducible rfl))
    try simp only [lay]
    refine hh.tl 7 ⟨some 35, Op.fieldAddr 86 (.tmp 34) 3, _, _, _, _⟩ ?v45 rfl ?hy45 ?_
    case hy45 => ((intro w0 hSw; obtain ⟨⟨hs0, hs1⟩, ⟨hs2, hs3⟩, ⟨hs4, hs5, hs6, hs7, hs8⟩⟩ := HKF.out w0 hSw; go_simp); try (with_reducible rfl))
    try simp only [lay]
    refine hh.tl 8 ⟨some 36, Op.load 83 (.tmp 35), _, _, _, _⟩ ?v46 rfl ?hy46 ?_
    case hy46 => ((intro w0 hSw; obtain ⟨⟨hs0, hs1⟩, ⟨hs2, hs3⟩, ⟨hs4, hs5, hs6, hs7, hs8⟩⟩ := HKF.out w0 hSw; go_simp); try (with_reducible rfl))
    try simp only [lay]
    refine hh.tl 9 ⟨some 37, Op.move (.tmp 1), _, _, _, _⟩ ?v47 rfl ?hy47 ?_
    case hy47 => ((intro w0 hSw; obtain ⟨⟨hs0, hs1⟩, ⟨hs2, hs3⟩, ⟨hs4, hs5, hs6, hs7, hs8⟩⟩ := HKF.out w0 hSw; go_simp); try (with_reducible rfl))
    try simp only [lay]
    refine hh.tl 10 ⟨some 38, Op.load 47 (.tmp 7), _, _, _, _⟩ ?v48 rfl ?hy48 ?_
    case hy48 => ((intro w0 hSw; obtain ⟨⟨hs0, hs1⟩, ⟨hs2, hs3⟩, ⟨hs4, hs5, hs6, hs7, hs8⟩⟩ := HKF.out w0 hSw; go_simp); try (with_reducible rfl))
    try simp only [lay]
    refine hh.tl 11 ⟨some 39, Op.load 80 (.tmp 5), _, _, _, _⟩ ?v49 rfl ?hy49 ?_
    case hy49 => ((intro w0 hSw; obtain ⟨⟨hs0, hs1⟩, ⟨hs2, hs3⟩, ⟨hs4, hs5, hs6, hs7, hs8⟩⟩ := HKF.out w0 hSw; go_simp); try (with_reducible rfl))
    try simp only [lay]
    refine hh.tl 12 ⟨some 40, Op.indexAddr 82 (.tmp 31) (.tmp 32), _, _, _, _⟩ ?v50 rfl ?hy50 ?_
    case hy50 => ((intro w0 hSw; obtain ⟨⟨hs0, hs1⟩, ⟨hs2, hs3⟩, ⟨hs4, hs5, hs6, hs7, hs8⟩⟩ := HKF.out w0 hSw; go_simp); try (with_reducible rfl))
    try simp only [lay]
    have hAd := HA.out _ hgd
    obtain ⟨hAs, hgs⟩ := HME.out _ HIE.out _ hgd g off cap _ HEV.out
    obtain ⟨ws, hws⟩ : ∃ ws, (wd2.setCell ⟨g, off + b * 2, none⟩ (.int .i64 ro)).setCell ⟨g, off + b * 2 + 1, none⟩ (.int .u32 (rs : Int)) = ws := ⟨_, rfl⟩
    obtain ⟨g', off', cap', hev', c0, c1, f0, f1⟩ := hAd.entCells HBE.out
    rw [HEV.out] at hev'; cases hev'
    dsimp only at hAs hgs
    rw [hws] at hAs hgs
    obtain ⟨v0, st, w1, hme, hg1, hz1, hst⟩ := tt.run_entry_map Tryd.underlying83 Tryd.underlying3 hAs.und (zeroAsk ws) (b : Int)
    obtain ⟨w3, hes, hM3, hg3, hz3⟩ := hst (.agg #[.int .u8 k, .int .i64 x, .int .u32 0, .bool jr, .int .u64 jl]) w1 rfl
    have hA3 := hAs.setUnd hM3 (grown_two hg1 hg3) HUP.out HI2.out HIJ.out
    have hd1 : Did wd2 ws F F := Did.of_own hgs fun i e => .inr (.inl (by cases e; rw [HEV.out]; rfl))
    have hd2 : Did ws w1 F F := Did.of_own hg1 fun i e => .inr (.inr (.inl (Option.some.inj e).symm))
    have hd3 : Did w1 w3 F F := Did.of_own hg3 fun i e => .inr (.inr (.inl (Option.some.inj e).symm))
    have HK1 := qh (HKP.out _ _ hd1 hHeld)
    have HK2 := qh (HKP.out _ _ hd2 HK1.out)
    have HK3 := qh (HKP.out _ _ hd3 HK2.out)
    have HA3 := qh hA3
    have HD3 := qh (((Did.of_grown F hgd).trans hd1).trans (hd2.trans hd3))
    have HWS := qh hws
    clear hAd hAs hgs hst hM3 hA3 hd1 hd2 hd3 hg1 hg3 hz1 hz3 hws
    refine rd1 (i := 13) (o := ⟨none, Op.store 47 (.tmp 40) (.tmp 38), _, _, _, _⟩) rfl (fun K hK => ?_)
    go_simp
    rw [HWS.out]
    refine hK.out _ _ HK1.out (fun hHeld => ?_)
    clear hK K
    try simp only [lay]
    refine rd1 (i := 14) (o := ⟨some 41, Op.mapEntry 83 (.tmp 36) (.tmp 37), _, _, _, _⟩) rfl (fun K hK => ?_)
    go_simp
    refine hK.out _ _ HK2.out (fun hHeld => ?_)
    clear hK K
    try simp only [lay]
    refine hh.tl 15 ⟨some 42, Op.extract (.tmp 41) 1, _, _, _, _⟩ ?v51 rfl ?hy51 ?_
    case hy51 => ((intro w0 hSw; go_simp); try (with_reducible rfl))
    try simp only [lay]
    refine rd1 (i := 16) (o := ⟨none, Op.entryStore 83 (.tmp 36) (.tmp 42) (.tmp 39), _, _, _, _⟩) rfl (fun K hK => ?_)
    go_simp
    refine hK.out _ _ HK3.out (fun hHeld => ?_)
    clear hK K
    try simp only [lay]
    refine wpAnyH_done (by kernel_rfl) ?_ _
    clear hHeld hme hes
    have hc1 := HA3.out.cells.2.1
    have HBL := qh (pp.block_any HA3.out.mem (b : Int))
    rw [(getB_row HBM.out).1, (getB_row HBM.out).2] at HBL
    have HRL := qh (rowOf_len HI1.out b)
    have HRO : Hid (rowOf { H with jb := H.jb.set b (some ⟨⟨k, x, jt, jb0, jst, jss, jhh, jq, jdd, jhd⟩, jw, jd, jr, jl⟩) } b = rowOf H b) := qh rfl
    rw [HRO.out] at HRL
    obtain ⟨rw0, hrw⟩ : ∃ r, r = rowOf H b := ⟨_, rfl⟩
    rw [← hrw] at HBL HRL
    have HRW0 := qh hrw
    have hrs : (pp.row rw0).size = 16 := by rw [pp.row_size]; exact HRL.out
    have hfd := fold_data x b rt rw0 HRL.out
    clear hrw
    have HN : Hid (∀ x s, _) := qh fun (x s : Int) => tt.na_size (dataN x b s rw0)
    have HN2 : Hid (∀ x s, _) := qh fun (x s : Int) => tt.build_na (dataN x b s rw0)
    have hn1 := HN.out x rt
    have hn2 := HN2.out x rt
    have HW3 : Hid (w.heap.size < w3.heap.size) := qh (lt_of HK3.out.2.2)
    go_wp2_with (first
      | (go_at_call 29; ((with_reducible refine HBL.out.mono ?_); rintro e w4 ⟨rfl, hg4⟩; have hx4 := hg4.cell (cr HK3.out.2.2 1 rfl) (by simp); have hl4 : w.heap.size < w4.heap.size := Nat.lt_of_lt_of_le HW3.out hg4.size; have hl5 : ¬ w.heap.size = w4.heap.size := Nat.ne_of_lt hl4; have HG4 := qh hg4; clear hg4))
      | ((with_reducible refine pp.store_new' rw0 _ _ ?_ ?_ HRL.out ?_); (rfl); (rfl))
      | ((with_reducible refine pp.load_any rw0 _ w4.heap.size ?_ (heap_alloc_new _ _) HRL.out ?_); (rfl)))
    have hgf : w3.grownBy ((w4.alloc (.cells (pp.row rw0) 29)).alloc (.cells (na (dataN x b rt rw0)) 31)) none := grown_alloc (grown_alloc HG4.out _) _
    go_ret
    refine ⟨_, rfl, HA3.out.grown hgf, ?_, ((Did.of_grown F HG.out).trans HD3.out).trans (Did.of_grown F hgf), fun k hk => ?_⟩
    · rw [← HRW0.out]
      exact nsl_one (heap_new2 _ _ _ _)
    · have h1 := HW3.out
      have h2 := HG4.out.size
      simp [Value.ownBlock] at hk
      omega

end
end Go.Proofs.YtenhdijbcdkfbaaDoor.hh

namespace Go.Proofs.YtenhdijbcdkfbaaDoor.hh
open Go Go.ChangeShapes Go.WideShapes Go.ChangeAt Go.RowKit
open Go.Proofs.YtenhdijbcdkfbaaDoor.tt (Nt Cfg fits net bare zd usd uses coreOf ok_ends MapAt mput mdel ik NPool NSl Turn flat na nt zn grown_alloc grown_refl grown_trans tyne lt_of)
open Go.Proofs.YtenhdijbcdkfbaaDoor.en (En gets back asked asks free ask_parts may_parts ea)
open Go.Proofs.YtenhdijbcdkfbaaDoor.mm (wi wo ones wo_lt)
set_option linter.unusedVariables false


theorem nameB : ∃ (t : TypeId) (m : Nat), Hid (Op.load 29 = Op.load t) ∧ (∀ w, (isAgg t).run Tryd.prog w = .ok true w) ∧ (∀ w, (sizeOf t).run Tryd.prog w = .ok m w) ∧
    ∀ (g : Nat) (n : Nt) (w : World), w.rangeAt g 0 (nt n) → (loadCellsFrom ⟨g, 8, none⟩ 0 m #[]).run Tryd.prog w = .ok (pp.row n.d) w :=
  ⟨29, 16, qh rfl, Tryd.isAgg29, Tryd.sizeOf29, fun g n w h => by
    have := run_loadCells_list (P := Tryd.prog) w ⟨g, 8, none⟩ (n.d.map tt.U) (fun j v hv => by
      rw [pp.add_lit]
      have := h (8 + j) v (by rw [tt.nt_d, ← List.getElem?_map]; exact hv)
      rwa [Nat.zero_add] at this)
    rw [← row_same]
    simpa [loadCells, n.hd, tt.row] using this⟩
theorem setB_in {H : Hm} {b : Nat} (hb : b < H.mm.length) (x : List Int) : pp.setB H.mm (b : Int) x = H.mm.set b x := by
  have hi : pp.inb H.mm.length (b : Int) = true := decide_eq_true ⟨by omega, by omega⟩
  unfold pp.setB
  rw [hi, if_pos rfl, Int.toNat_natCast]
section
variable {w : World} {h : Nat} {c : Cfg} {F : Ft} {H : Hm}
set_option maxRecDepth 1000000 in
set_option maxHeartbeats 4000000 in
theorem back_any (A : HomeAt w h c F H) (n : Nt) (hn : Asks c n) (h3 : n.k = 3) (tk : Bool) (htk : (back (enOf H n.b.toNat) n.f n.q).2.1 = tk) : Calls Tryd.prog 61 #[.pointer (some ⟨h, 0, none⟩), .agg (na n)] w fun e w' => ∃ v, e = .returned v ∧
    HomeAt w' h c F { H with en := H.en.set n.b.toNat (back (enOf H n.b.toNat) n.f n.q).1, mm := if tk then H.mm.set n.b.toNat n.d else H.mm } ∧ NSl w' v [bare 8 (-1) n.f n.b 0 0 false false] ∧ Did w w' F F ∧ ∀ k, v.ownBlock = some k → w.heap.size ≤ k := by
  obtain ⟨hb0, hb⟩ := blk_lt hn.fits
  obtain ⟨b, hbn⟩ : ∃ b : Nat, n.b = (b : Int) := ⟨n.b.toNat, by omega⟩
  rw [hbn, Int.toNat_natCast] at hb
  rw [hbn, Int.toNat_natCast] at htk ⊢
  clear hb0
  obtain ⟨wb, hwb⟩ : ∃ wb, w.alloc (.cells (na n) 31) = wb := ⟨_, rfl⟩
  have hgb : w.grownBy wb none := by rw [← hwb]; exact grown_alloc (grown_refl _ _) _
  have HA : Hid (∀ w', wb.grownBy w' none → HomeAt w' h c F H) := qh fun w' h' => A.grown (grown_trans hgb h')
  have hbx : wb.heap[w.heap.size]? = some (.cells (na n) 31 (0, 0)) := by rw [← hwb]; exact heap_alloc_new _ _
  have HR : Hid (∀ w' : World, w'.heap[w.heap.size]? = some (.cells (na n) 31 (0, 0)) → w'.rangeAt w.heap.size 0 (nt n)) := qh fun w' h' => tt.range_of h'
  have hbl : b < H.en.length := by rw [A.inv.le]; exact hb
  have HBE := qh hbl
  have HBM : Hid (b < H.mm.length) := qh (by rw [A.inv.lm]; have h1 := A.inv.may.2; have h2 := data_le A.inv.may; omega)
  have hmayb : (back (enOf H b) n.f n.q).1.may = true := back_may (ents_of A.inv b)
  have HI1 : Hid (Inv c { H with mm := if tk then H.mm.set b n.d else H.mm }) := qh (A.inv.mem tk b n.d n.hd)
  have HI2 : Hid (Inv c { H with en := H.en.set b (back (enOf H b) n.f n.q).1, mm := if tk then H.mm.set b n.d else H.mm }) := qh ⟨HI1.out.may, by rw [List.length_set]; exact HI1.out.le, HI1.out.lj, HI1.out.lm, HI1.out.rows, fun e he => by
    rcases mem_set he with he | rfl
    · exact HI1.out.ents e he
    · exact hmayb, HI1.out.jobs, HI1.out.wait⟩
  have HOL : Hid (∀ i, F.own i → i < w.heap.size) := qh fun i hi => A.own_lt hi
  have HOH := qh A.h_own
  have hes : (enOf H b).s < 4294967296 := by
    have := (may_parts (o := (enOf H b).o) (s := (enOf H b).s) (ents_of A.inv b)).2.2.1; omega
  have HQ : Hid (∀ w, _) := qh fun w => en.back_any (enOf H b).o (enOf H b).s n.f n.q w hes
  have HGE : Hid (back ⟨(enOf H b).o, (enOf H b).s⟩ n.f n.q = back (enOf H b) n.f n.q) := qh rfl
  unfold en.gone at HQ
  rw [HGE.out, htk] at HQ
  obtain ⟨g, off, cap, hev, _⟩ := A.entCells hbl
  obtain ⟨t9, mm9, HT9, hagg9, hsize9, hld9⟩ := nameB
  have HK : Hid (∀ w', wb.grownBy w' none → (w'.cell? ⟨h, 2, none⟩ = some (.slice (some ⟨g, off, none⟩) H.en.length cap)) ∧ (w'.cell? ⟨g, off + b * 2, none⟩ = some (.int .i64 (enOf H b).o) ∧ w'.cell? ⟨g, off + b * 2 + 1, none⟩ = some (.int .u32 ((enOf H b).s : Int))) ∧ (w'.cell? ⟨w.heap.size, 1, none⟩ = some (.int .i64 n.f) ∧ w'.cell? ⟨w.heap.size, 3, none⟩ = some (.int .i64 (b : Int)) ∧ w'.cell? ⟨w.heap.size, 7, none⟩ = some (.bool n.q))) := qh fun w' h' => by
    have hA := HA.out w' h'
    obtain ⟨g', off', cap', hev', e0, e1, _⟩ := hA.entCells hbl
    rw [hev] at hev'; cases hev'
    have hr := HR.out w' ((h'.block _ (lt_of hbx) (by simp)).trans hbx)
    exact ⟨hev ▸ hA.cells.2.2.1, ⟨e0, e1⟩, ⟨tt.cell_at hr 1 _ rfl, by rw [← hbn]; exact tt.cell_at hr 3 _ rfl, tt.cell_at hr 7 _ rfl⟩⟩
  have HNB := qh hbn
  have HEV := qh hev
  have HG := qh hgb
  have HBX := qh hbx
  have HLD : Hid (∀ w' : World, _) := qh fun w' : World => hld9 w.heap.size n w'
  have HSB : Hid (∀ w', wb.grownBy w' none → _) := qh fun w' h' => pp.set_block_any (HA.out w' h').mem (b : Int) n.d n.hd
  have hlt : (b : Int) < (H.en.length : Int) := by omega
  have hle : (0 : Int) ≤ (b : Int) := by omega
  obtain ⟨q, hq⟩ : ∃ q, q = H.en.length := ⟨_, rfl⟩
  have HQL := qh hq
  rw [← hq] at hlt HK
  have HHT := qh htk
  clear A hgb hbx hbl hb hmayb hes hev hq hbn htk hld9 hn h3
  generalize back (enOf H b) n.f n.q = r at *
  obtain ⟨⟨ro, rs⟩, rt, re⟩ := r
  generalize enOf H b = eb at *
  obtain ⟨eo, es⟩ := eb
  dsimp only at *
  go_enter Tryd.func61, Tryd.ntmps61
  go_wp2_with fail
  refine wp_region_held_drew (S := fun w' => wb.grownBy w' none) (by kernel_rfl) (tt.grown_drew (grown_refl _ _)) (fun hHeld => ?_)
  generalize wb.drew = wd at hHeld ⊢
  refine hh.tl 0 ⟨some 9, Op.move (.tmp 0), _, _, _, _⟩ ?v1 rfl ?hy1 ?_
  case hy1 => ((intro w0 hSw; obtain ⟨hs0, ⟨hs1, hs2⟩, ⟨hs3, hs4, hs5⟩⟩ := HK.out w0 hSw; go_simp); try (with_reducible rfl))
  try simp only [lay]
  refine hh.tl 1 ⟨some 10, Op.nilCheck (.tmp 9), _, _, _, _⟩ ?v2 rfl ?hy2 ?_
  case hy2 => ((intro w0 hSw; obtain ⟨hs0, ⟨hs1, hs2⟩, ⟨hs3, hs4, hs5⟩⟩ := HK.out w0 hSw; go_simp); try (with_reducible rfl))
  try simp only [lay]
  refine hh.tl 2 ⟨some 11, Op.fieldAddr 86 (.tmp 10) 2, _, _, _, _⟩ ?v3 rfl ?hy3 ?_
  case hy3 => ((intro w0 hSw; obtain ⟨hs0, ⟨hs1, hs2⟩, ⟨hs3, hs4, hs5⟩⟩ := HK.out w0 hSw; go_simp); try (with_reducible rfl))
  try simp only [lay]
  refine hh.tl 3 ⟨some 12, Op.load 82 (.tmp 11), _, _, _, _⟩ ?v4 rfl ?hy4 ?_
  case hy4 => ((intro w0 hSw; obtain ⟨hs0, ⟨hs1, hs2⟩, ⟨hs3, hs4, hs5⟩⟩ := HK.out w0 hSw; go_simp); try (with_reducible rfl))
  try simp only [lay]
  refine hh.tl 4 ⟨some 13, Op.fieldAddr 31 (.tmp 3) 3, _, _, _, _⟩ ?v5 rfl ?hy5 ?_
  case hy5 => ((intro w0 hSw; obtain ⟨hs0, ⟨hs1, hs2⟩, ⟨hs3, hs4, hs5⟩⟩ := HK.out w0 hSw; go_simp); try (with_reducible rfl))
  try simp only [lay]
  refine hh.tl 5 ⟨some 14, Op.load 3 (.tmp 13), _, _, _, _⟩ ?v6 rfl ?hy6 ?_
  case hy6 => ((intro w0 hSw; obtain ⟨hs0, ⟨hs1, hs2⟩, ⟨hs3, hs4, hs5⟩⟩ := HK.out w0 hSw; go_simp); try (with_reducible rfl))
  try simp only [lay]
  refine hh.tl 6 ⟨some 15, Op.indexAddr 82 (.tmp 12) (.tmp 14), _, _, _, _⟩ ?v7 rfl ?hy7 ?_
  case hy7 => ((intro w0 hSw; obtain ⟨hs0, ⟨hs1, hs2⟩, ⟨hs3, hs4, hs5⟩⟩ := HK.out w0 hSw; go_simp); try (with_reducible rfl))
  try simp only [lay]
  refine hh.tl 7 ⟨some 16, Op.load 47 (.tmp 15), _, _, _, _⟩ ?v8 rfl ?hy8 ?_
  case hy8 => ((intro w0 hSw; obtain ⟨hs0, ⟨hs1, hs2⟩, ⟨hs3, hs4, hs5⟩⟩ := HK.out w0 hSw; go_simp); try (with_reducible rfl))
  try simp only [lay]
  refine hh.tl 8 ⟨some 17, Op.fieldAddr 31 (.tmp 3) 1, _, _, _, _⟩ ?v9 rfl ?hy9 ?_
  case hy9 => ((intro w0 hSw; obtain ⟨hs0, ⟨hs1, hs2⟩, ⟨hs3, hs4, hs5⟩⟩ := HK.out w0 hSw; go_simp); try (with_reducible rfl))
  try simp only [lay]
  refine hh.tl 9 ⟨some 18, Op.load 3 (.tmp 17), _, _, _, _⟩ ?v10 rfl ?hy10 ?_
  case hy10 => ((intro w0 hSw; obtain ⟨hs0, ⟨hs1, hs2⟩, ⟨hs3, hs4, hs5⟩⟩ := HK.out w0 hSw; go_simp); try (with_reducible rfl))
  try simp only [lay]
  refine hh.tl 10 ⟨some 19, Op.fieldAddr 31 (.tmp 3) 7, _, _, _, _⟩ ?v11 rfl ?hy11 ?_
  case hy11 => ((intro w0 hSw; obtain ⟨hs0, ⟨hs1, hs2⟩, ⟨hs3, hs4, hs5⟩⟩ := HK.out w0 hSw; go_simp); try (with_reducible rfl))
  try simp only [lay]
  refine hh.tl 11 ⟨some 20, Op.load 4 (.tmp 19), _, _, _, _⟩ ?v12 rfl ?hy12 ?_
  case hy12 => ((intro w0 hSw; obtain ⟨hs0, ⟨hs1, hs2⟩, ⟨hs3, hs4, hs5⟩⟩ := HK.out w0 hSw; go_simp); try (with_reducible rfl))
  try simp only [lay]
  have HD0 := qh hHeld
  refine wpAnyH_ready (rs := [12, 17]) (by kernel_rfl) (by simp) ?_
  refine AllReadyH.cons (o := ⟨some 21, Op.call { callee := Callee.value (.func 75), args := #[(.tmp 16), (.tmp 18), (.tmp 20)], argTypes := #[47, 3, 4] }, _, _, _, _⟩) rfl (fun K hK => ?_) (AllReadyH.cons (o := ⟨some 5, Op.alloc 47, _, _, _, _⟩) rfl (fun K hK => ?_) AllReadyH.nil)
  · skip
    go_simp
    (with_reducible refine (HQ.out _).mono ?_); rintro e wg ⟨rfl, hg5⟩; have HGG := qh (grown_trans hHeld hg5)
    go_wp2_with fail
    refine hK.out _ _ HGG.out (fun hHeld => ?_)
    clear hK K
    try simp only [lay]
    refine hh.tl 13 ⟨some 8, Op.move (.tmp 21), _, _, _, _⟩ ?v13 rfl ?hy13 ?_
    case hy13 => ((intro w0 hSw; go_simp); try (with_reducible rfl))
    try simp only [lay]
    refine hh.tl 14 ⟨some 22, Op.extract (.tmp 8) 0, _, _, _, _⟩ ?v14 rfl ?hy14 ?_
    case hy14 => ((intro w0 hSw; go_simp); try (with_reducible rfl))
    try simp only [lay]
    refine hh.tl 15 ⟨some 23, Op.extract (.tmp 8) 1, _, _, _, _⟩ ?v15 rfl ?hy15 ?_
    case hy15 => ((intro w0 hSw; go_simp); try (with_reducible rfl))
    try simp only [lay]
    refine hh.tl 16 ⟨some 24, Op.extract (.tmp 8) 2, _, _, _, _⟩ ?v16 rfl ?hy16 ?_
    case hy16 => ((intro w0 hSw; go_simp); try (with_reducible rfl))
    try simp only [lay]
    refine rd1 (i := 17) (o := ⟨some 5, Op.alloc 47, _, _, _, _⟩) rfl (fun K hK => ?_)
    go_simp
    refine hK.out _ _ (grown_alloc HGG.out _) (fun hHeld => ?_)
    clear hK K
    try simp only [lay]
    refine rd1 (i := 18) (o := ⟨none, Op.store 47 (.tmp 5) (.tmp 22), _, _, _, _⟩) rfl (fun K hK => ?_)
    go_simp
    refine hK.out _ _ (grown_alloc HGG.out _) (fun hHeld => ?_)
    clear hK K
    try simp only [lay]
    refine hh.tl 19 ⟨some 6, Op.assign (.tmp 23), _, _, _, _⟩ ?v17 rfl ?hy17 ?_
    case hy17 => ((intro w0 hSw; go_simp); try (with_reducible rfl))
    try simp only [lay]
    refine hh.tl 20 ⟨some 7, Op.assign (.tmp 24), _, _, _, _⟩ ?v18 rfl ?hy18 ?_
    case hy18 => ((intro w0 hSw; go_simp); try (with_reducible rfl))
    try simp only [lay]
    refine wpAnyH_done (by kernel_rfl) ?_ _
    clear hHeld
    obtain ⟨wX, hX⟩ : ∃ wX, wg.alloc (.cells #[.int .i64 ro, .int .u32 (rs : Int)] 47) = wX := ⟨_, rfl⟩
    have hgd : wb.grownBy wX none := by rw [← hX]; exact grown_alloc HGG.out _
    have h7 : wX.heap[wg.heap.size]? = some (.cells #[.int .i64 ro, .int .u32 (rs : Int)] 47 (0, 0)) := by rw [← hX]; exact heap_alloc_new _ _
    have HW7 : Hid (wb.heap.size ≤ wg.heap.size) := qh HGG.out.size
    rw [hX]
    obtain ⟨B7, hB⟩ : ∃ B, wg.heap.size = B := ⟨_, rfl⟩
    rw [hB] at h7 HW7 ⊢
    clear hB hX
    have HKF : Hid (∀ w' : World, (w'.heap[h]? = some (.cells #[.int .i64 c.co, .pointer (some ⟨F.mb, 0, none⟩), F.ev, .map (some F.ub), .pointer (some ⟨F.pb, 0, none⟩)] 86 (0, 0)) ∧ w'.heap[B7]? = some (.cells #[.int .i64 ro, .int .u32 (rs : Int)] 47 (0, 0)) ∧ w'.heap[w.heap.size]? = some (.cells (na n) 31 (0, 0))) → (w'.cell? ⟨h, 1, none⟩ = some (.pointer (some ⟨F.mb, 0, none⟩)) ∧ w'.cell? ⟨h, 2, none⟩ = some (.slice (some ⟨g, off, none⟩) q cap)) ∧ (w'.cell? ⟨B7, 0, none⟩ = some (.int .i64 ro) ∧ w'.cell? ⟨B7, 1, none⟩ = some (.int .u32 (rs : Int))) ∧ (w'.cell? ⟨w.heap.size, 1, none⟩ = some (.int .i64 n.f) ∧ w'.cell? ⟨w.heap.size, 3, none⟩ = some (.int .i64 (b : Int)) ∧ (loadCellsFrom ⟨w.heap.size, 8, none⟩ 0 mm9 #[]).run Tryd.prog w' = .ok (pp.row n.d) w')) := qh fun w' ⟨e1, e2, e3⟩ => ⟨⟨cr e1 1 rfl, by have := cr e1 2 rfl; rw [HEV.out, ← HQL.out] at this; exact this⟩, ⟨cr e2 0 rfl, cr e2 1 rfl⟩, ⟨tt.cell_at (HR.out w' e3) 1 _ rfl, by rw [← HNB.out]; exact tt.cell_at (HR.out w' e3) 3 _ rfl, HLD.out w' (HR.out w' e3)⟩⟩
    have HKP : Hid (∀ w1 w2 : World, Did w1 w2 F F → (w1.heap[h]? = some (.cells #[.int .i64 c.co, .pointer (some ⟨F.mb, 0, none⟩), F.ev, .map (some F.ub), .pointer (some ⟨F.pb, 0, none⟩)] 86 (0, 0)) ∧ w1.heap[B7]? = some (.cells #[.int .i64 ro, .int .u32 (rs : Int)] 47 (0, 0)) ∧ w1.heap[w.heap.size]? = some (.cells (na n) 31 (0, 0))) → (w2.heap[h]? = some (.cells #[.int .i64 c.co, .pointer (some ⟨F.mb, 0, none⟩), F.ev, .map (some F.ub), .pointer (some ⟨F.pb, 0, none⟩)] 86 (0, 0)) ∧ w2.heap[B7]? = some (.cells #[.int .i64 ro, .int .u32 (rs : Int)] 47 (0, 0)) ∧ w2.heap[w.heap.size]? = some (.cells (na n) 31 (0, 0)))) := qh fun w1 w2 d ⟨e1, e2, e3⟩ => ⟨d.heap e1 HOH.out, d.heap e2 (fun e => by have := HOL.out _ e; have := HW7.out; have := HG.out.size; omega), d.heap e3 (fun e => by have := HOL.out _ e; omega)⟩
    have HFX0 : Hid (wX.heap[h]? = some (.cells #[.int .i64 c.co, .pointer (some ⟨F.mb, 0, none⟩), F.ev, .map (some F.ub), .pointer (some ⟨F.pb, 0, none⟩)] 86 (0, 0)) ∧ wX.heap[B7]? = some (.cells #[.int .i64 ro, .int .u32 (rs : Int)] 47 (0, 0)) ∧ wX.heap[w.heap.size]? = some (.cells (na n) 31 (0, 0))) := qh ⟨(HA.out _ hgd).blk, h7, (hgd.block _ (lt_of HBX.out) (by simp)).trans HBX.out⟩
    have HGX := qh hgd
    clear h7 hgd
    cases tk with
    | false =>
      obtain ⟨wM, hwM⟩ : ∃ wM, wM = wX := ⟨_, rfl⟩
      have HAM : Hid (HomeAt wM h c F { H with mm := if false = true then H.mm.set b n.d else H.mm }) := qh (by rw [hwM]; exact HA.out _ HGX.out)
      have HDM : Hid (Did wb wM F F) := qh (by rw [hwM]; exact Did.of_grown F HGX.out)
      have HFM : Hid (wM.heap[h]? = some (.cells #[.int .i64 c.co, .pointer (some ⟨F.mb, 0, none⟩), F.ev, .map (some F.ub), .pointer (some ⟨F.pb, 0, none⟩)] 86 (0, 0)) ∧ wM.heap[B7]? = some (.cells #[.int .i64 ro, .int .u32 (rs : Int)] 47 (0, 0)) ∧ wM.heap[w.heap.size]? = some (.cells (na n) 31 (0, 0))) := qh (by rw [hwM]; exact HFX0.out)
      rw [← hwM]
      clear hwM
      go_wp2_with fail
      refine wp_region_held_drew (S := fun w' => w'.heap[h]? = some (.cells #[.int .i64 c.co, .pointer (some ⟨F.mb, 0, none⟩), F.ev, .map (some F.ub), .pointer (some ⟨F.pb, 0, none⟩)] 86 (0, 0)) ∧ w'.heap[B7]? = some (.cells #[.int .i64 ro, .int .u32 (rs : Int)] 47 (0, 0)) ∧ w'.heap[w.heap.size]? = some (.cells (na n) 31 (0, 0))) (by kernel_rfl) ⟨HFM.out.1, HFM.out.2.1, HFM.out.2.2⟩ (fun hHeld => ?_)
      have hAd := HAM.out.grown (tt.grown_drew (grown_refl wM none))
      have hDd := HDM.out.trans (Did.of_grown F (tt.grown_drew (grown_refl wM none)))
      generalize wM.drew = wd3 at hAd hDd hHeld ⊢
      refine hh.tl 0 ⟨some 35, Op.move (.tmp 0), _, _, _, _⟩ ?v19 rfl ?hy19 ?_
      case hy19 => ((intro w0 hSw; obtain ⟨⟨hs0, hs1⟩, ⟨hs2, hs3⟩, ⟨hs4, hs5, hs6⟩⟩ := HKF.out w0 hSw; go_simp); try (with_reducible rfl))
      try simp only [lay]
      refine hh.tl 1 ⟨some 36, Op.nilCheck (.tmp 35), _, _, _, _⟩ ?v20 rfl ?hy20 ?_
      case hy20 => ((intro w0 hSw; obtain ⟨⟨hs0, hs1⟩, ⟨hs2, hs3⟩, ⟨hs4, hs5, hs6⟩⟩ := HKF.out w0 hSw; go_simp); try (with_reducible rfl))
      try simp only [lay]
      refine hh.tl 2 ⟨some 37, Op.fieldAddr 86 (.tmp 36) 2, _, _, _, _⟩ ?v21 rfl ?hy21 ?_
      case hy21 => ((intro w0 hSw; obtain ⟨⟨hs0, hs1⟩, ⟨hs2, hs3⟩, ⟨hs4, hs5, hs6⟩⟩ := HKF.out w0 hSw; go_simp); try (with_reducible rfl))
      try simp only [lay]
      refine hh.tl 3 ⟨some 38, Op.load 82 (.tmp 37), _, _, _, _⟩ ?v22 rfl ?hy22 ?_
      case hy22 => ((intro w0 hSw; obtain ⟨⟨hs0, hs1⟩, ⟨hs2, hs3⟩, ⟨hs4, hs5, hs6⟩⟩ := HKF.out w0 hSw; go_simp); try (with_reducible rfl))
      try simp only [lay]
      refine hh.tl 4 ⟨some 39, Op.fieldAddr 31 (.tmp 3) 3, _, _, _, _⟩ ?v23 rfl ?hy23 ?_
      case hy23 => ((intro w0 hSw; obtain ⟨⟨hs0, hs1⟩, ⟨hs2, hs3⟩, ⟨hs4, hs5, hs6⟩⟩ := HKF.out w0 hSw; go_simp); try (with_reducible rfl))
      try simp only [lay]
      refine hh.tl 5 ⟨some 40, Op.load 3 (.tmp 39), _, _, _, _⟩ ?v24 rfl ?hy24 ?_
      case hy24 => ((intro w0 hSw; obtain ⟨⟨hs0, hs1⟩, ⟨hs2, hs3⟩, ⟨hs4, hs5, hs6⟩⟩ := HKF.out w0 hSw; go_simp); try (with_reducible rfl))
      try simp only [lay]
      refine hh.tl 6 ⟨some 41, Op.load 47 (.tmp 5), _, _, _, _⟩ ?v25 rfl ?hy25 ?_
      case hy25 => ((intro w0 hSw; obtain ⟨⟨hs0, hs1⟩, ⟨hs2, hs3⟩, ⟨hs4, hs5, hs6⟩⟩ := HKF.out w0 hSw; go_simp); try (with_reducible rfl))
      try simp only [lay]
      refine hh.tl 7 ⟨some 42, Op.indexAddr 82 (.tmp 38) (.tmp 40), _, _, _, _⟩ ?v26 rfl ?hy26 ?_
      case hy26 => ((intro w0 hSw; obtain ⟨⟨hs0, hs1⟩, ⟨hs2, hs3⟩, ⟨hs4, hs5, hs6⟩⟩ := HKF.out w0 hSw; go_simp); try (with_reducible rfl))
      try simp only [lay]
      obtain ⟨hAs, hgs⟩ := hAd.setEnt HEV.out HBE.out ⟨ro, rs⟩ HI2.out
      obtain ⟨ws, hws⟩ : ∃ ws, (wd3.setCell ⟨g, off + b * 2, none⟩ (.int .i64 ro)).setCell ⟨g, off + b * 2 + 1, none⟩ (.int .u32 (rs : Int)) = ws := ⟨_, rfl⟩
      obtain ⟨g', off', cap', hev', c0, c1, f0, f1⟩ := hAd.entCells HBE.out
      rw [HEV.out] at hev'; cases hev'
      dsimp only at hAs hgs
      rw [hws] at hAs hgs
      have hd1 : Did wd3 ws F F := Did.of_own hgs fun i e => .inr (.inl (by cases e; rw [HEV.out]; rfl))
      have HK1 := qh (HKP.out _ _ hd1 hHeld)
      have HAS := qh hAs
      have HDS := qh (hDd.trans hd1)
      have HWS := qh hws
      clear hAd hAs hgs hd1 hws hDd
      refine rd1 (i := 8) (o := ⟨none, Op.store 47 (.tmp 42) (.tmp 41), _, _, _, _⟩) rfl (fun K hK => ?_)
      go_simp
      rw [HWS.out]
      refine hK.out _ _ HK1.out (fun hHeld => ?_)
      clear hK K
      try simp only [lay]
      refine wpAnyH_done (by kernel_rfl) ?_ _
      clear hHeld
      obtain ⟨⟨k0, k1⟩, ⟨k2, k3⟩, ⟨k4, k5, k6⟩⟩ := HKF.out ws HK1.out
      clear k6
      go_wp2_with fail
      have HZ := qh (tt.bare_na 8 (-1) n.f (b : Int) 0 0 false false)
      rw [← HZ.out]
      go_ret
      have HLW : w.heap.size < ws.heap.size := lt_of HK1.out.2.2
      refine ⟨_, rfl, HAS.out.grown (grown_alloc (grown_refl _ _) _), nsl_one (heap_alloc_new _ _), ((Did.of_grown F HG.out).trans HDS.out).trans (Did.of_grown F (grown_alloc (grown_refl _ _) _)), fun k hk => ?_⟩
      simp [Value.ownBlock] at hk
      omega
    | true =>
      go_wp2_with fail
      rw [HT9.out]
      refine wp_region_held_drew (S := fun w' => w'.heap[h]? = some (.cells #[.int .i64 c.co, .pointer (some ⟨F.mb, 0, none⟩), F.ev, .map (some F.ub), .pointer (some ⟨F.pb, 0, none⟩)] 86 (0, 0)) ∧ w'.heap[B7]? = some (.cells #[.int .i64 ro, .int .u32 (rs : Int)] 47 (0, 0)) ∧ w'.heap[w.heap.size]? = some (.cells (na n) 31 (0, 0))) (by kernel_rfl) ⟨HFX0.out.1, HFX0.out.2.1, HFX0.out.2.2⟩ (fun hHeld => ?_)
      have hgx := tt.grown_drew HGX.out
      generalize wX.drew = wd2 at hgx hHeld ⊢
      refine hh.tl 0 ⟨some 26, Op.move (.tmp 0), _, _, _, _⟩ ?v27 rfl ?hy27 ?_
      case hy27 => ((intro w0 hSw; obtain ⟨⟨hs0, hs1⟩, ⟨hs2, hs3⟩, ⟨hs4, hs5, hs6⟩⟩ := HKF.out w0 hSw; go_simp); try (with_reducible rfl))
      try simp only [lay]
      refine hh.tl 1 ⟨some 27, Op.nilCheck (.tmp 26), _, _, _, _⟩ ?v28 rfl ?hy28 ?_
      case hy28 => ((intro w0 hSw; obtain ⟨⟨hs0, hs1⟩, ⟨hs2, hs3⟩, ⟨hs4, hs5, hs6⟩⟩ := HKF.out w0 hSw; go_simp); try (with_reducible rfl))
      try simp only [lay]
      refine hh.tl 2 ⟨some 28, Op.fieldAddr 86 (.tmp 27) 1, _, _, _, _⟩ ?v29 rfl ?hy29 ?_
      case hy29 => ((intro w0 hSw; obtain ⟨⟨hs0, hs1⟩, ⟨hs2, hs3⟩, ⟨hs4, hs5, hs6⟩⟩ := HKF.out w0 hSw; go_simp); try (with_reducible rfl))
      try simp only [lay]
      refine hh.tl 3 ⟨some 29, Op.load 55 (.tmp 28), _, _, _, _⟩ ?v30 rfl ?hy30 ?_
      case hy30 => ((intro w0 hSw; obtain ⟨⟨hs0, hs1⟩, ⟨hs2, hs3⟩, ⟨hs4, hs5, hs6⟩⟩ := HKF.out w0 hSw; go_simp); try (with_reducible rfl))
      try simp only [lay]
      refine hh.tl 4 ⟨some 30, Op.fieldAddr 31 (.tmp 3) 3, _, _, _, _⟩ ?v31 rfl ?hy31 ?_
      case hy31 => ((intro w0 hSw; obtain ⟨⟨hs0, hs1⟩, ⟨hs2, hs3⟩, ⟨hs4, hs5, hs6⟩⟩ := HKF.out w0 hSw; go_simp); try (with_reducible rfl))
      try simp only [lay]
      refine hh.tl 5 ⟨some 31, Op.load 3 (.tmp 30), _, _, _, _⟩ ?v32 rfl ?hy32 ?_
      case hy32 => ((intro w0 hSw; obtain ⟨⟨hs0, hs1⟩, ⟨hs2, hs3⟩, ⟨hs4, hs5, hs6⟩⟩ := HKF.out w0 hSw; go_simp); try (with_reducible rfl))
      try simp only [lay]
      refine hh.tl 6 ⟨some 32, Op.fieldAddr 31 (.tmp 3) 8, _, _, _, _⟩ ?v33 rfl ?hy33 ?_
      case hy33 => ((intro w0 hSw; obtain ⟨⟨hs0, hs1⟩, ⟨hs2, hs3⟩, ⟨hs4, hs5, hs6⟩⟩ := HKF.out w0 hSw; go_simp); try (with_reducible rfl))
      try simp only [lay]
      refine hh.tl 7 ⟨some 33, Op.load t9 (.tmp 32), _, _, _, _⟩ ?v34 rfl ?hy34 ?_
      case hy34 => ((intro w0 hSw; obtain ⟨⟨hs0, hs1⟩, ⟨hs2, hs3⟩, ⟨hs4, hs5, hs6⟩⟩ := HKF.out w0 hSw; go_simp); try (with_reducible rfl))
      try simp only [lay]
      refine rd1 (i := 8) (o := ⟨some 34, Op.call { callee := Callee.value (.func 57), args := #[(.tmp 29), (.tmp 31), (.tmp 33)], argTypes := #[55, 3, 29] }, _, _, _, _⟩) rfl (fun K hK => ?_)
      go_simp
      (with_reducible refine (HSB.out _ hgx).mono ?_); rintro e wM ⟨rfl, hM, hgM⟩; have hDm : Did wd2 wM F F := (Did.of_own hgM fun i e => .inl e); have hMM := setB_in HBM.out n.d; rw [hMM] at hM; have HAM := qh ((HA.out _ hgx).setMem hM hgM HI1.out); have HDM := qh ((Did.of_grown F hgx).trans hDm); have HFM := qh (HKP.out _ _ hDm hHeld); clear hM hgM hDm hMM
      go_wp2_with fail
      refine hK.out _ _ HFM.out (fun hHeld => ?_)
      clear hK K
      try simp only [lay]
      refine wpAnyH_done (by kernel_rfl) ?_ _
      clear hHeld hgx
      go_wp2_with fail
      refine wp_region_held_drew (S := fun w' => w'.heap[h]? = some (.cells #[.int .i64 c.co, .pointer (some ⟨F.mb, 0, none⟩), F.ev, .map (some F.ub), .pointer (some ⟨F.pb, 0, none⟩)] 86 (0, 0)) ∧ w'.heap[B7]? = some (.cells #[.int .i64 ro, .int .u32 (rs : Int)] 47 (0, 0)) ∧ w'.heap[w.heap.size]? = some (.cells (na n) 31 (0, 0))) (by kernel_rfl) ⟨HFM.out.1, HFM.out.2.1, HFM.out.2.2⟩ (fun hHeld => ?_)
      have hAd := HAM.out.grown (tt.grown_drew (grown_refl wM none))
      have hDd := HDM.out.trans (Did.of_grown F (tt.grown_drew (grown_refl wM none)))
      generalize wM.drew = wd3 at hAd hDd hHeld ⊢
      refine hh.tl 0 ⟨some 35, Op.move (.tmp 0), _, _, _, _⟩ ?v35 rfl ?hy35 ?_
      case hy35 => ((intro w0 hSw; obtain ⟨⟨hs0, hs1⟩, ⟨hs2, hs3⟩, ⟨hs4, hs5, hs6⟩⟩ := HKF.out w0 hSw; go_simp); try (with_reducible rfl))
      try simp only [lay]
      refine hh.tl 1 ⟨some 36, Op.nilCheck (.tmp 35), _, _, _, _⟩ ?v36 rfl ?hy36 ?_
      case hy36 => ((intro w0 hSw; obtain ⟨⟨hs0, hs1⟩, ⟨hs2, hs3⟩, ⟨hs4, hs5, hs6⟩⟩ := HKF.out w0 hSw; go_simp); try (with_reducible rfl))
      try simp only [lay]
      refine hh.tl 2 ⟨some 37, Op.fieldAddr 86 (.tmp 36) 2, _, _, _, _⟩ ?v37 rfl ?hy37 ?_
      case hy37 => ((intro w0 hSw; obtain ⟨⟨hs0, hs1⟩, ⟨hs2, hs3⟩, ⟨hs4, hs5, hs6⟩⟩ := HKF.out w0 hSw; go_simp); try (with_reducible rfl))
      try simp only [lay]
      refine hh.tl 3 ⟨some 38, Op.load 82 (.tmp 37), _, _, _, _⟩ ?v38 rfl ?hy38 ?_
      case hy38 => ((intro w0 hSw; obtain ⟨⟨hs0, hs1⟩, ⟨hs2, hs3⟩, ⟨hs4, hs5, hs6⟩⟩ := HKF.out w0 hSw; go_simp); try (with_reducible rfl))
      try simp only [lay]
      refine hh.tl 4 ⟨some 39, Op.fieldAddr 31 (.tmp 3) 3, _, _, _, _⟩ ?v39 rfl ?hy39 ?_
      case hy39 => ((intro w0 hSw; obtain ⟨⟨hs0, hs1⟩, ⟨hs2, hs3⟩, ⟨hs4, hs5, hs6⟩⟩ := HKF.out w0 hSw; go_simp); try (with_reducible rfl))
      try simp only [lay]
      refine hh.tl 5 ⟨some 40, Op.load 3 (.tmp 39), _, _, _, _⟩ ?v40 rfl ?hy40 ?_
      case hy40 => ((intro w0 hSw; obtain ⟨⟨hs0, hs1⟩, ⟨hs2, hs3⟩, ⟨hs4, hs5, hs6⟩⟩ := HKF.out w0 hSw; go_simp); try (with_reducible rfl))
      try simp only [lay]
      refine hh.tl 6 ⟨some 41, Op.load 47 (.tmp 5), _, _, _, _⟩ ?v41 rfl ?hy41 ?_
      case hy41 => ((intro w0 hSw; obtain ⟨⟨hs0, hs1⟩, ⟨hs2, hs3⟩, ⟨hs4, hs5, hs6⟩⟩ := HKF.out w0 hSw; go_simp); try (with_reducible rfl))
      try simp only [lay]
      refine hh.tl 7 ⟨some 42, Op.indexAddr 82 (.tmp 38) (.tmp 40), _, _, _, _⟩ ?v42 rfl ?hy42 ?_
      case hy42 => ((intro w0 hSw; obtain ⟨⟨hs0, hs1⟩, ⟨hs2, hs3⟩, ⟨hs4, hs5, hs6⟩⟩ := HKF.out w0 hSw; go_simp); try (with_reducible rfl))
      try simp only [lay]
      obtain ⟨hAs, hgs⟩ := hAd.setEnt HEV.out HBE.out ⟨ro, rs⟩ HI2.out
      obtain ⟨ws, hws⟩ : ∃ ws, (wd3.setCell ⟨g, off + b * 2, none⟩ (.int .i64 ro)).setCell ⟨g, off + b * 2 + 1, none⟩ (.int .u32 (rs : Int)) = ws := ⟨_, rfl⟩
      obtain ⟨g', off', cap', hev', c0, c1, f0, f1⟩ := hAd.entCells HBE.out
      rw [HEV.out] at hev'; cases hev'
      dsimp only at hAs hgs
      rw [hws] at hAs hgs
      have hd1 : Did wd3 ws F F := Did.of_own hgs fun i e => .inr (.inl (by cases e; rw [HEV.out]; rfl))
      have HK1 := qh (HKP.out _ _ hd1 hHeld)
      have HAS := qh hAs
      have HDS := qh (hDd.trans hd1)
      have HWS := qh hws
      clear hAd hAs hgs hd1 hws hDd
      refine rd1 (i := 8) (o := ⟨none, Op.store 47 (.tmp 42) (.tmp 41), _, _, _, _⟩) rfl (fun K hK => ?_)
      go_simp
      rw [HWS.out]
      refine hK.out _ _ HK1.out (fun hHeld => ?_)
      clear hK K
      try simp only [lay]
      refine wpAnyH_done (by kernel_rfl) ?_ _
      clear hHeld
      obtain ⟨⟨k0, k1⟩, ⟨k2, k3⟩, ⟨k4, k5, k6⟩⟩ := HKF.out ws HK1.out
      clear k6
      go_wp2_with fail
      have HZ := qh (tt.bare_na 8 (-1) n.f (b : Int) 0 0 false false)
      rw [← HZ.out]
      go_ret
      have HLW : w.heap.size < ws.heap.size := lt_of HK1.out.2.2
      refine ⟨_, rfl, HAS.out.grown (grown_alloc (grown_refl _ _) _), nsl_one (heap_alloc_new _ _), ((Did.of_grown F HG.out).trans HDS.out).trans (Did.of_grown F (grown_alloc (grown_refl _ _) _)), fun k hk => ?_⟩
      simp [Value.ownBlock] at hk
      omega
  · skip
    go_simp
    refine hK.out _ _ (grown_alloc HD0.out _) (fun hHeld => ?_)
    clear hK K
    try simp only [lay]
    refine rd1 (i := 12) (o := ⟨some 21, Op.call { callee := Callee.value (.func 75), args := #[(.tmp 16), (.tmp 18), (.tmp 20)], argTypes := #[47, 3, 4] }, _, _, _, _⟩) rfl (fun K hK => ?_)
    go_simp
    (with_reducible refine (HQ.out _).mono ?_); rintro e wg ⟨rfl, hg5⟩; have HGG := qh (grown_trans hHeld hg5); have HZ7 := qh ((hg5.block wd.heap.size (by simp) (by simp)).trans (heap_alloc_new _ _))
    go_wp2_with fail
    refine hK.out _ _ HGG.out (fun hHeld => ?_)
    clear hK K
    try simp only [lay]
    refine hh.tl 13 ⟨some 8, Op.move (.tmp 21), _, _, _, _⟩ ?v43 rfl ?hy43 ?_
    case hy43 => ((intro w0 hSw; go_simp); try (with_reducible rfl))
    try simp only [lay]
    refine hh.tl 14 ⟨some 22, Op.extract (.tmp 8) 0, _, _, _, _⟩ ?v44 rfl ?hy44 ?_
    case hy44 => ((intro w0 hSw; go_simp); try (with_reducible rfl))
    try simp only [lay]
    refine hh.tl 15 ⟨some 23, Op.extract (.tmp 8) 1, _, _, _, _⟩ ?v45 rfl ?hy45 ?_
    case hy45 => ((intro w0 hSw; go_simp); try (with_reducible rfl))
    try simp only [lay]
    refine hh.tl 16 ⟨some 24, Op.extract (.tmp 8) 2, _, _, _, _⟩ ?v46 rfl ?hy46 ?_
    case hy46 => ((intro w0 hSw; go_simp); try (with_reducible rfl))
    try simp only [lay]
    have z0 := cr HZ7.out 0 rfl
    have z1 := cr HZ7.out 1 rfl
    have zf0 : wg.frozen? ⟨wd.heap.size, 0, none⟩ = false := by simp [World.frozen?, HZ7.out]
    have zf1 : wg.frozen? ⟨wd.heap.size, 1, none⟩ = false := by simp [World.frozen?, HZ7.out]
    refine rd1 (i := 18) (o := ⟨none, Op.store 47 (.tmp 5) (.tmp 22), _, _, _, _⟩) rfl (fun K hK => ?_)
    go_simp
    refine hK.out _ _ (grown_put HGG.out HD0.out.size) (fun hHeld => ?_)
    clear hK K
    try simp only [lay]
    refine hh.tl 19 ⟨some 6, Op.assign (.tmp 23), _, _, _, _⟩ ?v47 rfl ?hy47 ?_
    case hy47 => ((intro w0 hSw; go_simp); try (with_reducible rfl))
    try simp only [lay]
    refine hh.tl 20 ⟨some 7, Op.assign (.tmp 24), _, _, _, _⟩ ?v48 rfl ?hy48 ?_
    case hy48 => ((intro w0 hSw; go_simp); try (with_reducible rfl))
    try simp only [lay]
    refine wpAnyH_done (by kernel_rfl) ?_ _
    clear hHeld z0 z1 zf0 zf1
    obtain ⟨wX, hX⟩ : ∃ wX, (wg.setCell ⟨wd.heap.size, 0, none⟩ (.int .i64 ro)).setCell ⟨wd.heap.size, 1, none⟩ (.int .u32 (rs : Int)) = wX := ⟨_, rfl⟩
    have hgd : wb.grownBy wX none := by rw [← hX]; exact (grown_put HGG.out HD0.out.size)
    have h7 : wX.heap[wd.heap.size]? = some (.cells #[.int .i64 ro, .int .u32 (rs : Int)] 47 (0, 0)) := by rw [← hX]; exact put_two HZ7.out _ _
    have HW7 : Hid (wb.heap.size ≤ wd.heap.size) := qh HD0.out.size
    rw [hX]
    obtain ⟨B7, hB⟩ : ∃ B, wd.heap.size = B := ⟨_, rfl⟩
    rw [hB] at h7 HW7 ⊢
    clear hB hX
    have HKF : Hid (∀ w' : World, (w'.heap[h]? = some (.cells #[.int .i64 c.co, .pointer (some ⟨F.mb, 0, none⟩), F.ev, .map (some F.ub), .pointer (some ⟨F.pb, 0, none⟩)] 86 (0, 0)) ∧ w'.heap[B7]? = some (.cells #[.int .i64 ro, .int .u32 (rs : Int)] 47 (0, 0)) ∧ w'.heap[w.heap.size]? = some (.cells (na n) 31 (0, 0))) → (w'.cell? ⟨h, 1, none⟩ = some (.pointer (some ⟨F.mb, 0, none⟩)) ∧ w'.cell? ⟨h, 2, none⟩ = some (.slice (some ⟨g, off, none⟩) q cap)) ∧ (w'.cell? ⟨B7, 0, none⟩ = some (.int .i64 ro) ∧ w'.cell? ⟨B7, 1, none⟩ = some (.int .u32 (rs : Int))) ∧ (w'.cell? ⟨w.heap.size, 1, none⟩ = some (.int .i64 n.f) ∧ w'.cell? ⟨w.heap.size, 3, none⟩ = some (.int .i64 (b : Int)) ∧ (loadCellsFrom ⟨w.heap.size, 8, none⟩ 0 mm9 #[]).run Tryd.prog w' = .ok (pp.row n.d) w')) := qh fun w' ⟨e1, e2, e3⟩ => ⟨⟨cr e1 1 rfl, by have := cr e1 2 rfl; rw [HEV.out, ← HQL.out] at this; exact this⟩, ⟨cr e2 0 rfl, cr e2 1 rfl⟩, ⟨tt.cell_at (HR.out w' e3) 1 _ rfl, by rw [← HNB.out]; exact tt.cell_at (HR.out w' e3) 3 _ rfl, HLD.out w' (HR.out w' e3)⟩⟩
    have HKP : Hid (∀ w1 w2 : World, Did w1 w2 F F → (w1.heap[h]? = some (.cells #[.int .i64 c.co, .pointer (some ⟨F.mb, 0, none⟩), F.ev, .map (some F.ub), .pointer (some ⟨F.pb, 0, none⟩)] 86 (0, 0)) ∧ w1.heap[B7]? = some (.cells #[.int .i64 ro, .int .u32 (rs : Int)] 47 (0, 0)) ∧ w1.heap[w.heap.size]? = some (.cells (na n) 31 (0, 0))) → (w2.heap[h]? = some (.cells #[.int .i64 c.co, .pointer (some ⟨F.mb, 0, none⟩), F.ev, .map (some F.ub), .pointer (some ⟨F.pb, 0, none⟩)] 86 (0, 0)) ∧ w2.heap[B7]? = some (.cells #[.int .i64 ro, .int .u32 (rs : Int)] 47 (0, 0)) ∧ w2.heap[w.heap.size]? = some (.cells (na n) 31 (0, 0)))) := qh fun w1 w2 d ⟨e1, e2, e3⟩ => ⟨d.heap e1 HOH.out, d.heap e2 (fun e => by have := HOL.out _ e; have := HW7.out; have := HG.out.size; omega), d.heap e3 (fun e => by have := HOL.out _ e; omega)⟩
    have HFX0 : Hid (wX.heap[h]? = some (.cells #[.int .i64 c.co, .pointer (some ⟨F.mb, 0, none⟩), F.ev, .map (some F.ub), .pointer (some ⟨F.pb, 0, none⟩)] 86 (0, 0)) ∧ wX.heap[B7]? = some (.cells #[.int .i64 ro, .int .u32 (rs : Int)] 47 (0, 0)) ∧ wX.heap[w.heap.size]? = some (.cells (na n) 31 (0, 0))) := qh ⟨(HA.out _ hgd).blk, h7, (hgd.block _ (lt_of HBX.out) (by simp)).trans HBX.out⟩
    have HGX := qh hgd
    clear h7 hgd
    cases tk with
    | false =>
      obtain ⟨wM, hwM⟩ : ∃ wM, wM = wX := ⟨_, rfl⟩
      have HAM : Hid (HomeAt wM h c F { H with mm := if false = true then H.mm.set b n.d else H.mm }) := qh (by rw [hwM]; exact HA.out _ HGX.out)
      have HDM : Hid (Did wb wM F F) := qh (by rw [hwM]; exact Did.of_grown F HGX.out)
      have HFM : Hid (wM.heap[h]? = some (.cells #[.int .i64 c.co, .pointer (some ⟨F.mb, 0, none⟩), F.ev, .map (some F.ub), .pointer (some ⟨F.pb, 0, none⟩)] 86 (0, 0)) ∧ wM.heap[B7]? = some (.cells #[.int .i64 ro, .int .u32 (rs : Int)] 47 (0, 0)) ∧ wM.heap[w.heap.size]? = some (.cells (na n) 31 (0, 0))) := qh (by rw [hwM]; exact HFX0.out)
      rw [← hwM]
      clear hwM
      go_wp2_with fail
      refine wp_region_held_drew (S := fun w' => w'.heap[h]? = some (.cells #[.int .i64 c.co, .pointer (some ⟨F.mb, 0, none⟩), F.ev, .map (some F.ub), .pointer (some ⟨F.pb, 0, none⟩)] 86 (0, 0)) ∧ w'.heap[B7]? = some (.cells #[.int .i64 ro, .int .u32 (rs : Int)] 47 (0, 0)) ∧ w'.heap[w.heap.size]? = some (.cells (na n) 31 (0, 0))) (by kernel_rfl) ⟨HFM.out.1, HFM.out.2.1, HFM.out.2.2⟩ (fun hHeld => ?_)
      have hAd := HAM.out.grown (tt.grown_drew (grown_refl wM none))
      have hDd := HDM.out.trans (Did.of_grown F (tt.grown_drew (grown_refl wM none)))
      generalize wM.drew = wd3 at hAd hDd hHeld ⊢
      refine hh.tl 0 ⟨some 35, Op.move (.tmp 0), _, _, _, _⟩ ?v49 rfl ?hy49 ?_
      case hy49 => ((intro w0 hSw; obtain ⟨⟨hs0, hs1⟩, ⟨hs2, hs3⟩, ⟨hs4, hs5, hs6⟩⟩ := HKF.out w0 hSw; go_simp); try (with_reducible rfl))
      try simp only [lay]
      refine hh.tl 1 ⟨some 36, Op.nilCheck (.tmp 35), _, _, _, _⟩ ?v50 rfl ?hy50 ?_
      case hy50 => ((intro w0 hSw; obtain ⟨⟨hs0, hs1⟩, ⟨hs2, hs3⟩, ⟨hs4, hs5, hs6⟩⟩ := HKF.out w0 hSw; go_simp); try (with_reducible rfl))
      try simp only [lay]
      refine hh.tl 2 ⟨some 37, Op.fieldAddr 86 (.tmp 36) 2, _, _, _, _⟩ ?v51 rfl ?hy51 ?_
      case hy51 => ((intro w0 hSw; obtain ⟨⟨hs0, hs1⟩, ⟨hs2, hs3⟩, ⟨hs4, hs5, hs6⟩⟩ := HKF.out w0 hSw; go_simp); try (with_reducible rfl))
      try simp only [lay]
      refine hh.tl 3 ⟨some 38, Op.load 82 (.tmp 37), _, _, _, _⟩ ?v52 rfl ?hy52 ?_
      case hy52 => ((intro w0 hSw; obtain ⟨⟨hs0, hs1⟩, ⟨hs2, hs3⟩, ⟨hs4, hs5, hs6⟩⟩ := HKF.out w0 hSw; go_simp); try (with_reducible rfl))
      try simp only [lay]
      refine hh.tl 4 ⟨some 39, Op.fieldAddr 31 (.tmp 3) 3, _, _, _, _⟩ ?v53 rfl ?hy53 ?_
      case hy53 => ((intro w0 hSw; obtain ⟨⟨hs0, hs1⟩, ⟨hs2, hs3⟩, ⟨hs4, hs5, hs6⟩⟩ := HKF.out w0 hSw; go_simp); try (with_reducible rfl))
      try simp only [lay]
      refine hh.tl 5 ⟨some 40, Op.load 3 (.tmp 39), _, _, _, _⟩ ?v54 rfl ?hy54 ?_
      case hy54 => ((intro w0 hSw; obtain ⟨⟨hs0, hs1⟩, ⟨hs2, hs3⟩, ⟨hs4, hs5, hs6⟩⟩ := HKF.out w0 hSw; go_simp); try (with_reducible rfl))
      try simp only [lay]
      refine hh.tl 6 ⟨some 41, Op.load 47 (.tmp 5), _, _, _, _⟩ ?v55 rfl ?hy55 ?_
      case hy55 => ((intro w0 hSw; obtain ⟨⟨hs0, hs1⟩, ⟨hs2, hs3⟩, ⟨hs4, hs5, hs6⟩⟩ := HKF.out w0 hSw; go_simp); try (with_reducible rfl))
      try simp only [lay]
      refine hh.tl 7 ⟨some 42, Op.indexAddr 82 (.tmp 38) (.tmp 40), _, _, _, _⟩ ?v56 rfl ?hy56 ?_
      case hy56 => ((intro w0 hSw; obtain ⟨⟨hs0, hs1⟩, ⟨hs2, hs3⟩, ⟨hs4, hs5, hs6⟩⟩ := HKF.out w0 hSw; go_simp); try (with_reducible rfl))
      try simp only [lay]
      obtain ⟨hAs, hgs⟩ := hAd.setEnt HEV.out HBE.out ⟨ro, rs⟩ HI2.out
      obtain ⟨ws, hws⟩ : ∃ ws, (wd3.setCell ⟨g, off + b * 2, none⟩ (.int .i64 ro)).setCell ⟨g, off + b * 2 + 1, none⟩ (.int .u32 (rs : Int)) = ws := ⟨_, rfl⟩
      obtain ⟨g', off', cap', hev', c0, c1, f0, f1⟩ := hAd.entCells HBE.out
      rw [HEV.out] at hev'; cases hev'
      dsimp only at hAs hgs
      rw [hws] at hAs hgs
      have hd1 : Did wd3 ws F F := Did.of_own hgs fun i e => .inr (.inl (by cases e; rw [HEV.out]; rfl))
      have HK1 := qh (HKP.out _ _ hd1 hHeld)
      have HAS := qh hAs
      have HDS := qh (hDd.trans hd1)
      have HWS := qh hws
      clear hAd hAs hgs hd1 hws hDd
      refine rd1 (i := 8) (o := ⟨none, Op.store 47 (.tmp 42) (.tmp 41), _, _, _, _⟩) rfl (fun K hK => ?_)
      go_simp
      rw [HWS.out]
      refine hK.out _ _ HK1.out (fun hHeld => ?_)
      clear hK K
      try simp only [lay]
      refine wpAnyH_done (by kernel_rfl) ?_ _
      clear hHeld
      obtain ⟨⟨k0, k1⟩, ⟨k2, k3⟩, ⟨k4, k5, k6⟩⟩ := HKF.out ws HK1.out
      clear k6
      go_wp2_with fail
      have HZ := qh (tt.bare_na 8 (-1) n.f (b : Int) 0 0 false false)
      rw [← HZ.out]
      go_ret
      have HLW : w.heap.size < ws.heap.size := lt_of HK1.out.2.2
      refine ⟨_, rfl, HAS.out.grown (grown_alloc (grown_refl _ _) _), nsl_one (heap_alloc_new _ _), ((Did.of_grown F HG.out).trans HDS.out).trans (Did.of_grown F (grown_alloc (grown_refl _ _) _)), fun k hk => ?_⟩
      simp [Value.ownBlock] at hk
      omega
    | true =>
      go_wp2_with fail
      rw [HT9.out]
      refine wp_region_held_drew (S := fun w' => w'.heap[h]? = some (.cells #[.int .i64 c.co, .pointer (some ⟨F.mb, 0, none⟩), F.ev, .map (some F.ub), .pointer (some ⟨F.pb, 0, none⟩)] 86 (0, 0)) ∧ w'.heap[B7]? = some (.cells #[.int .i64 ro, .int .u32 (rs : Int)] 47 (0, 0)) ∧ w'.heap[w.heap.size]? = some (.cells (na n) 31 (0, 0))) (by kernel_rfl) ⟨HFX0.out.1, HFX0.out.2.1, HFX0.out.2.2⟩ (fun hHeld => ?_)
      have hgx := tt.grown_drew HGX.out
      generalize wX.drew = wd2 at hgx hHeld ⊢
      refine hh.tl 0 ⟨some 26, Op.move (.tmp 0), _, _, _, _⟩ ?v57 rfl ?hy57 ?_
      case hy57 => ((intro w0 hSw; obtain ⟨⟨hs0, hs1⟩, ⟨hs2, hs3⟩, ⟨hs4, hs5, hs6⟩⟩ := HKF.out w0 hSw; go_simp); try (with_reducible rfl))
      try simp only [lay]
      refine hh.tl 1 ⟨some 27, Op.nilCheck (.tmp 26), _, _, _, _⟩ ?v58 rfl ?hy58 ?_
      case hy58 => ((intro w0 hSw; obtain ⟨⟨hs0, hs1⟩, ⟨hs2, hs3⟩, ⟨hs4, hs5, hs6⟩⟩ := HKF.out w0 hSw; go_simp); try (with_reducible rfl))
      try simp only [lay]
      refine hh.tl 2 ⟨some 28, Op.fieldAddr 86 (.tmp 27) 1, _, _, _, _⟩ ?v59 rfl ?hy59 ?_
      case hy59 => ((intro w0 hSw; obtain ⟨⟨hs0, hs1⟩, ⟨hs2, hs3⟩, ⟨hs4, hs5, hs6⟩⟩ := HKF.out w0 hSw; go_simp); try (with_reducible rfl))
      try simp only [lay]
      refine hh.tl 3 ⟨some 29, Op.load 55 (.tmp 28), _, _, _, _⟩ ?v60 rfl ?hy60 ?_
      case hy60 => ((intro w0 hSw; obtain ⟨⟨hs0, hs1⟩, ⟨hs2, hs3⟩, ⟨hs4, hs5, hs6⟩⟩ := HKF.out w0 hSw; go_simp); try (with_reducible rfl))
      try simp only [lay]
      refine hh.tl 4 ⟨some 30, Op.fieldAddr 31 (.tmp 3) 3, _, _, _, _⟩ ?v61 rfl ?hy61 ?_
      case hy61 => ((intro w0 hSw; obtain ⟨⟨hs0, hs1⟩, ⟨hs2, hs3⟩, ⟨hs4, hs5, hs6⟩⟩ := HKF.out w0 hSw; go_simp); try (with_reducible rfl))
      try simp only [lay]
      refine hh.tl 5 ⟨some 31, Op.load 3 (.tmp 30), _, _, _, _⟩ ?v62 rfl ?hy62 ?_
      case hy62 => ((intro w0 hSw; obtain ⟨⟨hs0, hs1⟩, ⟨hs2, hs3⟩, ⟨hs4, hs5, hs6⟩⟩ := HKF.out w0 hSw; go_simp); try (with_reducible rfl))
      try simp only [lay]
      refine hh.tl 6 ⟨some 32, Op.fieldAddr 31 (.tmp 3) 8, _, _, _, _⟩ ?v63 rfl ?hy63 ?_
      case hy63 => ((intro w0 hSw; obtain ⟨⟨hs0, hs1⟩, ⟨hs2, hs3⟩, ⟨hs4, hs5, hs6⟩⟩ := HKF.out w0 hSw; go_simp); try (with_reducible rfl))
      try simp only [lay]
      refine hh.tl 7 ⟨some 33, Op.load t9 (.tmp 32), _, _, _, _⟩ ?v64 rfl ?hy64 ?_
      case hy64 => ((intro w0 hSw; obtain ⟨⟨hs0, hs1⟩, ⟨hs2, hs3⟩, ⟨hs4, hs5, hs6⟩⟩ := HKF.out w0 hSw; go_simp); try (with_reducible rfl))
      try simp only [lay]
      refine rd1 (i := 8) (o := ⟨some 34, Op.call { callee := Callee.value (.func 57), args := #[(.tmp 29), (.tmp 31), (.tmp 33)], argTypes := #[55, 3, 29] }, _, _, _, _⟩) rfl (fun K hK => ?_)
      go_simp
      (with_reducible refine (HSB.out _ hgx).mono ?_); rintro e wM ⟨rfl, hM, hgM⟩; have hDm : Did wd2 wM F F := (Did.of_own hgM fun i e => .inl e); have hMM := setB_in HBM.out n.d; rw [hMM] at hM; have HAM := qh ((HA.out _ hgx).setMem hM hgM HI1.out); have HDM := qh ((Did.of_grown F hgx).trans hDm); have HFM := qh (HKP.out _ _ hDm hHeld); clear hM hgM hDm hMM
      go_wp2_with fail
      refine hK.out _ _ HFM.out (fun hHeld => ?_)
      clear hK K
      try simp only [lay]
      refine wpAnyH_done (by kernel_rfl) ?_ _
      clear hHeld hgx
      go_wp2_with fail
      refine wp_region_held_drew (S := fun w' => w'.heap[h]? = some (.cells #[.int .i64 c.co, .pointer (some ⟨F.mb, 0, none⟩), F.ev, .map (some F.ub), .pointer (some ⟨F.pb, 0, none⟩)] 86 (0, 0)) ∧ w'.heap[B7]? = some (.cells #[.int .i64 ro, .int .u32 (rs : Int)] 47 (0, 0)) ∧ w'.heap[w.heap.size]? = some (.cells (na n) 31 (0, 0))) (by kernel_rfl) ⟨HFM.out.1, HFM.out.2.1, HFM.out.2.2⟩ (fun hHeld => ?_)
      have hAd := HAM.out.grown (tt.grown_drew (grown_refl wM none))
      have hDd := HDM.out.trans (Did.of_grown F (tt.grown_drew (grown_refl wM none)))
      generalize wM.drew = wd3 at hAd hDd hHeld ⊢
      refine hh.tl 0 ⟨some 35, Op.move (.tmp 0), _, _, _, _⟩ ?v65 rfl ?hy65 ?_
      case hy65 => ((intro w0 hSw; obtain ⟨⟨hs0, hs1⟩, ⟨hs2, hs3⟩, ⟨hs4, hs5, hs6⟩⟩ := HKF.out w0 hSw; go_simp); try (with_reducible rfl))
      try simp only [lay]
      refine hh.tl 1 ⟨some 36, Op.nilCheck (.tmp 35), _, _, _, _⟩ ?v66 rfl ?hy66 ?_
      case hy66 => ((intro w0 hSw; obtain ⟨⟨hs0, hs1⟩, ⟨hs2, hs3⟩, ⟨hs4, hs5, hs6⟩⟩ := HKF.out w0 hSw; go_simp); try (with_reducible rfl))
      try simp only [lay]
      refine hh.tl 2 ⟨some 37, Op.fieldAddr 86 (.tmp 36) 2, _, _, _, _⟩ ?v67 rfl ?hy67 ?_
      case hy67 => ((intro w0 hSw; obtain ⟨⟨hs0, hs1⟩, ⟨hs2, hs3⟩, ⟨hs4, hs5, hs6⟩⟩ := HKF.out w0 hSw; go_simp); try (with_reducible rfl))
      try simp only [lay]
      refine hh.tl 3 ⟨some 38, Op.load 82 (.tmp 37), _, _, _, _⟩ ?v68 rfl ?hy68 ?_
      case hy68 => ((intro w0 hSw; obtain ⟨⟨hs0, hs1⟩, ⟨hs2, hs3⟩, ⟨hs4, hs5, hs6⟩⟩ := HKF.out w0 hSw; go_simp); try (with_reducible rfl))
      try simp only [lay]
      refine hh.tl 4 ⟨some 39, Op.fieldAddr 31 (.tmp 3) 3, _, _, _, _⟩ ?v69 rfl ?hy69 ?_
      case hy69 => ((intro w0 hSw; obtain ⟨⟨hs0, hs1⟩, ⟨hs2, hs3⟩, ⟨hs4, hs5, hs6⟩⟩ := HKF.out w0 hSw; go_simp); try (with_reducible rfl))
      try simp only [lay]
      refine hh.tl 5 ⟨some 40, Op.load 3 (.tmp 39), _, _, _, _⟩ ?v70 rfl ?hy70 ?_
      case hy70 => ((intro w0 hSw; obtain ⟨⟨hs0, hs1⟩, ⟨hs2, hs3⟩, ⟨hs4, hs5, hs6⟩⟩ := HKF.out w0 hSw; go_simp); try (with_reducible rfl))
      try simp only [lay]
      refine hh.tl 6 ⟨some 41, Op.load 47 (.tmp 5), _, _, _, _⟩ ?v71 rfl ?hy71 ?_
      case hy71 => ((intro w0 hSw; obtain ⟨⟨hs0, hs1⟩, ⟨hs2, hs3⟩, ⟨hs4, hs5, hs6⟩⟩ := HKF.out w0 hSw; go_simp); try (with_reducible rfl))
      try simp only [lay]
      refine hh.tl 7 ⟨some 42, Op.indexAddr 82 (.tmp 38) (.tmp 40), _, _, _, _⟩ ?v72 rfl ?hy72 ?_
      case hy72 => ((intro w0 hSw; obtain ⟨⟨hs0, hs1⟩, ⟨hs2, hs3⟩, ⟨hs4, hs5, hs6⟩⟩ := HKF.out w0 hSw; go_simp); try (with_reducible rfl))
      try simp only [lay]
      obtain ⟨hAs, hgs⟩ := hAd.setEnt HEV.out HBE.out ⟨ro, rs⟩ HI2.out
      obtain ⟨ws, hws⟩ : ∃ ws, (wd3.setCell ⟨g, off + b * 2, none⟩ (.int .i64 ro)).setCell ⟨g, off + b * 2 + 1, none⟩ (.int .u32 (rs : Int)) = ws := ⟨_, rfl⟩
      obtain ⟨g', off', cap', hev', c0, c1, f0, f1⟩ := hAd.entCells HBE.out
      rw [HEV.out] at hev'; cases hev'
      dsimp only at hAs hgs
      rw [hws] at hAs hgs
      have hd1 : Did wd3 ws F F := Did.of_own hgs fun i e => .inr (.inl (by cases e; rw [HEV.out]; rfl))
      have HK1 := qh (HKP.out _ _ hd1 hHeld)
      have HAS := qh hAs
      have HDS := qh (hDd.trans hd1)
      have HWS := qh hws
      clear hAd hAs hgs hd1 hws hDd
      refine rd1 (i := 8) (o := ⟨none, Op.store 47 (.tmp 42) (.tmp 41), _, _, _, _⟩) rfl (fun K hK => ?_)
      go_simp
      rw [HWS.out]
      refine hK.out _ _ HK1.out (fun hHeld => ?_)
      clear hK K
      try simp only [lay]
      refine wpAnyH_done (by kernel_rfl) ?_ _
      clear hHeld
      obtain ⟨⟨k0, k1⟩, ⟨k2, k3⟩, ⟨k4, k5, k6⟩⟩ := HKF.out ws HK1.out
      clear k6
      go_wp2_with fail
      have HZ := qh (tt.bare_na 8 (-1) n.f (b : Int) 0 0 false false)
      rw [← HZ.out]
      go_ret
      have HLW : w.heap.size < ws.heap.size := lt_of HK1.out.2.2
      refine ⟨_, rfl, HAS.out.grown (grown_alloc (grown_refl _ _) _), nsl_one (heap_alloc_new _ _), ((Did.of_grown F HG.out).trans HDS.out).trans (Did.of_grown F (grown_alloc (grown_refl _ _) _)), fun k hk => ?_⟩
      simp [Value.ownBlock] at hk
      omega
end
end Go.Proofs.YtenhdijbcdkfbaaDoor.hh

namespace Go.Proofs.YtenhdijbcdkfbaaDoor.hh
open Go Go.ChangeShapes Go.WideShapes Go.ChangeAt Go.RowKit
open Go.Proofs.YtenhdijbcdkfbaaDoor.tt (Nt Cfg fits net bare zd usd uses coreOf ok_ends MapAt mput mdel ik NPool NSl Turn flat na nt zn grown_alloc grown_refl grown_trans tyne lt_of)
open Go.Proofs.YtenhdijbcdkfbaaDoor.en (En gets back asked asks free ask_parts may_parts ea)
open Go.Proofs.YtenhdijbcdkfbaaDoor.mm (wi wo ones wo_lt)
set_option linter.unusedVariables false


/-- A post that is False at a panic. -/
def calm (Q : Exit → Act → World → Prop) : Exit → Act → World → Prop
  | .panic _, _, _ => False
  | e, a, w => Q e a w
theorem wpIn_calm {F : Fence} {n : Nat} {P : Program} {c : Code} {Q : Exit → Act → World → Prop} {a : Act} {w : World} (h : c.wpIn F n P (calm Q) a w) : c.wpIn F n P Q a w :=
  Code.wpIn_mono (Q := calm Q) (fun e a w hq => by cases e <;> first | exact hq | exact False.elim hq) h
theorem calm_ret {Q : Exit → Act → World → Prop} {a : Act} {w : World} (h : Q .ret a w) : calm Q .ret a w := h
theorem grown_put1 {a b : World} {g : Nat} (h : a.grownBy b none) (hg : a.heap.size ≤ g) {u : Value} {i : Nat} : a.grownBy (b.setCell ⟨g, i, none⟩ u) none :=
  ⟨h.os, h.tape, h.output, by have := h.size; simp [World.setCell]; omega, fun k hk hn => (Below.heap_setCell _ _ _ _ (show k ≠ g by omega)).trans (h.block k hk hn)⟩
theorem put_one {w : World} {g : Nat} {a : Value} {t : TypeId} (h : w.heap[g]? = some (.cells #[a] t (0, 0))) (u : Value) : (w.setCell ⟨g, 0, none⟩ u).heap[g]? = some (.cells #[u] t (0, 0)) := by
  obtain ⟨cur', q1, q2, q3, q4⟩ := tt.heap_setCells g t [u] 0 w #[a] h (by simp)
  have e : w.setCell ⟨g, 0, none⟩ u = w.setCells g 0 [u] := rfl
  rw [e, q1]
  have h0 := q4 0 u rfl
  have : cur' = #[u] := by
    apply Array.ext_getElem?
    intro i
    match i with
    | 0 => simpa using h0
    | i + 1 => rw [Array.getElem?_eq_none (by rw [q2]; simp), Array.getElem?_eq_none (by simp)]
  rw [this]
section
variable {w : World} {h : Nat} {c : Cfg} {F : Ft} {H : Hm}
set_option maxRecDepth 1000000 in
set_option maxHeartbeats 4000000 in
theorem begin_put (A : HomeAt w h c F H) (n : Nt) (hn : Asks c n) (h3 : n.k = 3) : Calls Tryd.prog 38 #[.pointer (some ⟨h, 0, none⟩), .agg (na n)] w fun e w' => ∃ v, e = .returned v ∧
    HomeAt w' h c F (begin1 H n).1 ∧ NSl w' v (begin1 H n).2 ∧ Did w w' F F ∧ ∀ k, v.ownBlock = some k → w.heap.size ≤ k := by
  obtain ⟨wb, hwb⟩ : ∃ wb, w.alloc (.cells (na n) 31) = wb := ⟨_, rfl⟩
  have hgb : w.grownBy wb none := by rw [← hwb]; exact grown_alloc (grown_refl _ _) _
  have HA : Hid (∀ w', wb.grownBy w' none → HomeAt w' h c F H) := qh fun w' h' => A.grown (grown_trans hgb h')
  have hbx : wb.heap[w.heap.size]? = some (.cells (na n) 31 (0, 0)) := by rw [← hwb]; exact heap_alloc_new _ _
  have HR : Hid (∀ w' : World, w'.heap[w.heap.size]? = some (.cells (na n) 31 (0, 0)) → w'.rangeAt w.heap.size 0 (nt n)) := qh fun w' h' => tt.range_of h'
  have HBX := qh hbx
  have HG := qh hgb
  have k0 : wb.cell? ⟨w.heap.size, 0, none⟩ = some (.int .u8 n.k) := tt.cell_at (HR.out _ hbx) 0 _ rfl
  have e3 : (n.k == 3) = true := by rw [h3]; rfl
  have HQ : Hid (Calls Tryd.prog 61 #[.pointer (some ⟨h, 0, none⟩), .agg (na n)] wb fun e w' => ∃ v, e = .returned v ∧ HomeAt w' h c F (begin1 H n).1 ∧ NSl w' v (begin1 H n).2 ∧ Did wb w' F F ∧ ∀ k, v.ownBlock = some k → wb.heap.size ≤ k) := qh (by
    have := back_any (HA.out _ (grown_refl _ _)) n hn h3 _ rfl
    unfold begin1
    rw [if_pos h3]
    exact this)
  clear A hbx hgb h3 hn
  refine (callsIn_wide (n := 9)).1 ?_
  refine callsIn_of_wp_marks Tryd.func38 rfl trivial ?_ rfl
  simp only [Tryd.ntmps38, List.size_toArray, List.length_cons, List.length_nil, Nat.reduceAdd, Nat.reduceSub, Array.replicate_succ, Array.replicate_zero, List.push_toArray, List.append_toArray, List.nil_append, List.cons_append]
  refine wpIn_calm ?_
  refine wpIn_wide.2 ?_
  go_wp2_with (first
    | ((with_reducible refine tt.load_nt n _ w.heap.size ?_ (HR.out _ HBX.out) ?_); (rfl))
    | (go_at_call 61; ((with_reducible refine HQ.out.mono ?_); rintro e w1 ⟨v, rfl, hA1, hS1, hD1, hf1⟩; have HA1 := qh hA1; have HS1 := qh hS1; have HD1 := qh hD1; have HF1 := qh hf1; clear hA1 hS1 hD1 hf1)))
  exact calm_ret ⟨_, results_tmp rfl _ _ _, v, rfl, HA1.out, HS1.out, (Did.of_grown F HG.out).trans HD1.out, fun k hk => Nat.le_trans HG.out.size (HF1.out k hk)⟩
set_option maxRecDepth 1000000 in
set_option maxHeartbeats 4000000 in
theorem begin_now (A : HomeAt w h c F H) (n : Nt) (hn : Asks c n) (hT : mm.Tab w) (h3 : n.k ≠ 3) (hw : (asked (enOf H n.b.toNat) n.k n.f).1 = 0) : Calls Tryd.prog 38 #[.pointer (some ⟨h, 0, none⟩), .agg (na n)] w fun e w' => ∃ v, e = .returned v ∧
    HomeAt w' h c F (begin1 H n).1 ∧ NSl w' v (begin1 H n).2 ∧ Did w w' F F ∧ ∀ k, v.ownBlock = some k → w.heap.size ≤ k := by
  have hk : n.k = 1 ∨ n.k = 2 := by rcases asks_kind hn with e | e | e <;> omega
  obtain ⟨hb0, hb⟩ := blk_lt hn.fits
  obtain ⟨b, hbn⟩ : ∃ b : Nat, n.b = (b : Int) := ⟨n.b.toNat, by omega⟩
  have HBT : Hid (n.b.toNat = b) := qh (by omega)
  rw [HBT.out] at hb
  rw [HBT.out] at hw
  obtain ⟨wb, hwb⟩ : ∃ wb, w.alloc (.cells (na n) 31) = wb := ⟨_, rfl⟩
  have hgb : w.grownBy wb none := by rw [← hwb]; exact grown_alloc (grown_refl _ _) _
  have HA : Hid (∀ w', wb.grownBy w' none → HomeAt w' h c F H) := qh fun w' h' => A.grown (grown_trans hgb h')
  have hbx : wb.heap[w.heap.size]? = some (.cells (na n) 31 (0, 0)) := by rw [← hwb]; exact heap_alloc_new _ _
  have HR : Hid (∀ w' : World, w'.heap[w.heap.size]? = some (.cells (na n) 31 (0, 0)) → w'.rangeAt w.heap.size 0 (nt n)) := qh fun w' h' => tt.range_of h'
  have HBX := qh hbx
  have HG := qh hgb
  have k0 : wb.cell? ⟨w.heap.size, 0, none⟩ = some (.int .u8 n.k) := tt.cell_at (HR.out _ hbx) 0 _ rfl
  have e3 : (n.k == 3) = false := by simpa using h3
  have hbl : b < H.en.length := by rw [A.inv.le]; exact hb
  have hbj : b < H.jb.length := by rw [A.inv.lj]; exact hb
  have hes : (enOf H b).s < 4294967296 := by
    have := (may_parts (o := (enOf H b).o) (s := (enOf H b).s) (ents_of A.inv b)).2.2.1; omega
  have HQ : Hid (∀ w', wb.grownBy w' none → _) := qh fun w' h' => en.asked_any (enOf H b).o (enOf H b).s n.k n.f w' hes (mtab_grown hT (grown_trans hgb h'))
  have HGE : Hid (asked ⟨(enOf H b).o, (enOf H b).s⟩ n.k n.f = asked (enOf H b) n.k n.f) := qh rfl
  unfold en.told at HQ
  rw [HGE.out] at HQ
  obtain ⟨g, off, cap, hev, _⟩ := A.entCells hbl
  have HK : Hid (∀ w', wb.grownBy w' none → (w'.cell? ⟨h, 2, none⟩ = some (.slice (some ⟨g, off, none⟩) H.en.length cap)) ∧ (w'.cell? ⟨g, off + b * 2, none⟩ = some (.int .i64 (enOf H b).o) ∧ w'.cell? ⟨g, off + b * 2 + 1, none⟩ = some (.int .u32 ((enOf H b).s : Int))) ∧ (w'.cell? ⟨w.heap.size, 0, none⟩ = some (.int .u8 n.k) ∧ w'.cell? ⟨w.heap.size, 1, none⟩ = some (.int .i64 n.f) ∧ w'.cell? ⟨w.heap.size, 3, none⟩ = some (.int .i64 (b : Int)))) := qh fun w' h' => by
    have hA := HA.out w' h'
    obtain ⟨g', off', cap', hev', e0, e1, _⟩ := hA.entCells hbl
    rw [hev] at hev'; cases hev'
    have hr := HR.out w' ((h'.block _ (lt_of hbx) (by simp)).trans hbx)
    exact ⟨hev ▸ hA.cells.2.2.1, ⟨e0, e1⟩, ⟨tt.cell_at hr 0 _ rfl, tt.cell_at hr 1 _ rfl, by rw [← hbn]; exact tt.cell_at hr 3 _ rfl⟩⟩
  have HNB := qh hbn
  have hlt : (b : Int) < (H.en.length : Int) := by omega
  have hle : (0 : Int) ≤ (b : Int) := by omega
  obtain ⟨q, hq⟩ : ∃ q, q = H.en.length := ⟨_, rfl⟩
  rw [← hq] at hlt HK
  have HAN : Hid (∀ w', HomeAt w' h c F H → Calls Tryd.prog 58 #[.pointer (some ⟨h, 0, none⟩), .int .i64 (b : Int), .agg #[.int .u8 n.k, .int .i64 n.f, .int .u32 0, .bool false, .int .u64 0]] w' fun e w2 => ∃ v, e = .returned v ∧ HomeAt w2 h c F (begin1 H n).1 ∧ NSl w2 v (begin1 H n).2 ∧ Did w' w2 F F ∧ ∀ k, v.ownBlock = some k → w'.heap.size ≤ k) := qh fun w' hA => by
    have hj : JobOk c b ⟨n, 0, false, false, 0⟩ := ⟨hn, hk, by show n.b = (b : Int); omega, (show (0 : Nat) < 4294967296 by decide), ⟨Int.le_refl _, (show (0 : Int) < 18446744073709551616 by decide)⟩⟩
    have := answer_any hA b hb ⟨n, 0, false, false, 0⟩ hj rfl
    unfold begin1
    rw [if_neg h3, HBT.out, if_pos hw]
    unfold answer
    have hjb : jbOf { H with jb := H.jb.set b (some ⟨n, 0, false, false, 0⟩) } b = some ⟨n, 0, false, false, 0⟩ := get_jbOf (by show (H.jb.set b _)[b]? = _; rw [List.getElem?_set_self hbj])
    rw [hjb]
    simp only [List.set_set]
    exact this
  have HIB := qh hb0
  clear A hbx hgb hb hbl hbj hes hev hq hbn hn hk h3 hT hb0
  generalize asked (enOf H b) n.k n.f = r at *
  obtain ⟨m, by1, re⟩ := r
  generalize enOf H b = eb at *
  obtain ⟨eo, es⟩ := eb
  dsimp only at *
  subst hw
  clear HNB HBT
  refine (callsIn_wide (n := 9)).1 ?_
  refine callsIn_of_wp_marks Tryd.func38 rfl trivial ?_ rfl
  simp only [Tryd.ntmps38, List.size_toArray, List.length_cons, List.length_nil, Nat.reduceAdd, Nat.reduceSub, Array.replicate_succ, Array.replicate_zero, List.push_toArray, List.append_toArray, List.nil_append, List.cons_append]
  refine wpIn_calm ?_
  refine wpIn_wide.2 ?_
  go_wp2_with fail
  refine wp_region_held_drew (S := fun w' => wb.grownBy w' none) (by kernel_rfl) (tt.grown_drew (grown_refl _ _)) (fun hHeld => ?_)
  generalize wb.drew = wd at hHeld ⊢
  refine hh.tl 0 ⟨some 18, Op.move (.tmp 0), _, _, _, _⟩ ?v1 rfl ?hy1 ?_
  case hy1 => ((intro w0 hSw; obtain ⟨hs0, ⟨hs1, hs2⟩, ⟨hs3, hs4, hs5⟩⟩ := HK.out w0 hSw; go_simp); try (with_reducible rfl))
  try simp only [lay]
  refine hh.tl 1 ⟨some 19, Op.nilCheck (.tmp 18), _, _, _, _⟩ ?v2 rfl ?hy2 ?_
  case hy2 => ((intro w0 hSw; obtain ⟨hs0, ⟨hs1, hs2⟩, ⟨hs3, hs4, hs5⟩⟩ := HK.out w0 hSw; go_simp); try (with_reducible rfl))
  try simp only [lay]
  refine hh.tl 2 ⟨some 20, Op.fieldAddr 86 (.tmp 19) 2, _, _, _, _⟩ ?v3 rfl ?hy3 ?_
  case hy3 => ((intro w0 hSw; obtain ⟨hs0, ⟨hs1, hs2⟩, ⟨hs3, hs4, hs5⟩⟩ := HK.out w0 hSw; go_simp); try (with_reducible rfl))
  try simp only [lay]
  refine hh.tl 3 ⟨some 21, Op.load 82 (.tmp 20), _, _, _, _⟩ ?v4 rfl ?hy4 ?_
  case hy4 => ((intro w0 hSw; obtain ⟨hs0, ⟨hs1, hs2⟩, ⟨hs3, hs4, hs5⟩⟩ := HK.out w0 hSw; go_simp); try (with_reducible rfl))
  try simp only [lay]
  refine hh.tl 4 ⟨some 22, Op.fieldAddr 31 (.tmp 3) 3, _, _, _, _⟩ ?v5 rfl ?hy5 ?_
  case hy5 => ((intro w0 hSw; obtain ⟨hs0, ⟨hs1, hs2⟩, ⟨hs3, hs4, hs5⟩⟩ := HK.out w0 hSw; go_simp); try (with_reducible rfl))
  try simp only [lay]
  refine hh.tl 5 ⟨some 23, Op.load 3 (.tmp 22), _, _, _, _⟩ ?v6 rfl ?hy6 ?_
  case hy6 => ((intro w0 hSw; obtain ⟨hs0, ⟨hs1, hs2⟩, ⟨hs3, hs4, hs5⟩⟩ := HK.out w0 hSw; go_simp); try (with_reducible rfl))
  try simp only [lay]
  refine hh.tl 6 ⟨some 24, Op.indexAddr 82 (.tmp 21) (.tmp 23), _, _, _, _⟩ ?v7 rfl ?hy7 ?_
  case hy7 => ((intro w0 hSw; obtain ⟨hs0, ⟨hs1, hs2⟩, ⟨hs3, hs4, hs5⟩⟩ := HK.out w0 hSw; go_simp); try (with_reducible rfl))
  try simp only [lay]
  refine hh.tl 7 ⟨some 25, Op.load 47 (.tmp 24), _, _, _, _⟩ ?v8 rfl ?hy8 ?_
  case hy8 => ((intro w0 hSw; obtain ⟨hs0, ⟨hs1, hs2⟩, ⟨hs3, hs4, hs5⟩⟩ := HK.out w0 hSw; go_simp); try (with_reducible rfl))
  try simp only [lay]
  refine hh.tl 8 ⟨some 26, Op.fieldAddr 31 (.tmp 3) 0, _, _, _, _⟩ ?v9 rfl ?hy9 ?_
  case hy9 => ((intro w0 hSw; obtain ⟨hs0, ⟨hs1, hs2⟩, ⟨hs3, hs4, hs5⟩⟩ := HK.out w0 hSw; go_simp); try (with_reducible rfl))
  try simp only [lay]
  refine hh.tl 9 ⟨some 27, Op.load 5 (.tmp 26), _, _, _, _⟩ ?v10 rfl ?hy10 ?_
  case hy10 => ((intro w0 hSw; obtain ⟨hs0, ⟨hs1, hs2⟩, ⟨hs3, hs4, hs5⟩⟩ := HK.out w0 hSw; go_simp); try (with_reducible rfl))
  try simp only [lay]
  refine hh.tl 10 ⟨some 28, Op.fieldAddr 31 (.tmp 3) 1, _, _, _, _⟩ ?v11 rfl ?hy11 ?_
  case hy11 => ((intro w0 hSw; obtain ⟨hs0, ⟨hs1, hs2⟩, ⟨hs3, hs4, hs5⟩⟩ := HK.out w0 hSw; go_simp); try (with_reducible rfl))
  try simp only [lay]
  refine hh.tl 11 ⟨some 29, Op.load 3 (.tmp 28), _, _, _, _⟩ ?v12 rfl ?hy12 ?_
  case hy12 => ((intro w0 hSw; obtain ⟨hs0, ⟨hs1, hs2⟩, ⟨hs3, hs4, hs5⟩⟩ := HK.out w0 hSw; go_simp); try (with_reducible rfl))
  try simp only [lay]
  have HD0 := qh hHeld
  refine wpAnyH_ready (rs := [12, 17]) (by kernel_rfl) (by simp) ?_
  refine AllReadyH.cons (o := ⟨some 30, Op.call { callee := Callee.value (.func 62), args := #[(.tmp 25), (.tmp 27), (.tmp 29)], argTypes := #[47, 5, 3] }, _, _, _, _⟩) rfl (fun K hK => ?_) (AllReadyH.cons (o := ⟨some 6, Op.alloc 5, _, _, _, _⟩) rfl (fun K hK => ?_) AllReadyH.nil)
  · skip
    go_simp
    (with_reducible refine (HQ.out _ hHeld).mono ?_); rintro e wg ⟨rfl, hg5⟩; have HGG := qh (grown_trans hHeld hg5)
    go_wp2_with fail
    refine hK.out _ _ HGG.out (fun hHeld => ?_)
    clear hK K
    try simp only [lay]
    refine hh.tl 13 ⟨some 17, Op.move (.tmp 30), _, _, _, _⟩ ?v13 rfl ?hy13 ?_
    case hy13 => ((intro w0 hSw; go_simp); try (with_reducible rfl))
    try simp only [lay]
    refine hh.tl 14 ⟨some 31, Op.extract (.tmp 17) 0, _, _, _, _⟩ ?v14 rfl ?hy14 ?_
    case hy14 => ((intro w0 hSw; go_simp); try (with_reducible rfl))
    try simp only [lay]
    refine hh.tl 15 ⟨some 32, Op.extract (.tmp 17) 1, _, _, _, _⟩ ?v15 rfl ?hy15 ?_
    case hy15 => ((intro w0 hSw; go_simp); try (with_reducible rfl))
    try simp only [lay]
    refine hh.tl 16 ⟨some 33, Op.extract (.tmp 17) 2, _, _, _, _⟩ ?v16 rfl ?hy16 ?_
    case hy16 => ((intro w0 hSw; go_simp); try (with_reducible rfl))
    try simp only [lay]
    refine rd1 (i := 17) (o := ⟨some 6, Op.alloc 5, _, _, _, _⟩) rfl (fun K hK => ?_)
    go_simp
    refine hK.out _ _ (grown_alloc HGG.out _) (fun hHeld => ?_)
    clear hK K
    try simp only [lay]
    refine hh.tl 18 ⟨some 5, Op.assign (.tmp 31), _, _, _, _⟩ ?v17 rfl ?hy17 ?_
    case hy17 => ((intro w0 hSw; go_simp); try (with_reducible rfl))
    try simp only [lay]
    refine rd1 (i := 19) (o := ⟨none, Op.store 5 (.tmp 6) (.tmp 32), _, _, _, _⟩) rfl (fun K hK => ?_)
    go_simp
    refine hK.out _ _ (grown_alloc HGG.out _) (fun hHeld => ?_)
    clear hK K
    try simp only [lay]
    refine hh.tl 20 ⟨some 7, Op.assign (.tmp 33), _, _, _, _⟩ ?v18 rfl ?hy18 ?_
    case hy18 => ((intro w0 hSw; go_simp); try (with_reducible rfl))
    try simp only [lay]
    refine wpAnyH_done (by kernel_rfl) ?_ _
    clear hHeld
    obtain ⟨wX, hX⟩ : ∃ wX, wg.alloc (.cells #[.int .u8 by1] 5) = wX := ⟨_, rfl⟩
    have hgd : wb.grownBy wX none := by rw [← hX]; exact grown_alloc HGG.out _
    have h6 : wX.heap[wg.heap.size]? = some (.cells #[.int .u8 by1] 5 (0, 0)) := by rw [← hX]; exact heap_alloc_new _ _
    have h6l : wb.heap.size ≤ wg.heap.size := HGG.out.size
    rw [hX]
    obtain ⟨B6, hB⟩ : ∃ B, wg.heap.size = B := ⟨_, rfl⟩
    rw [hB] at h6 h6l ⊢
    clear hB hX HGG HD0
    have HA6 := qh (HA.out _ hgd)
    have HGD := qh hgd
    have HB6 : Hid (wX.heap[w.heap.size]? = some (.cells (na n) 31 (0, 0))) := qh ((hgd.block _ (lt_of HBX.out) (by simp)).trans HBX.out)
    obtain ⟨_, _, f0, f1, f3⟩ := HK.out _ hgd
    have hl : w.heap.size < wX.heap.size := lt_of HB6.out
    have hl2 : ¬ w.heap.size = wX.heap.size := Nat.ne_of_lt hl
    have HQ2 : Hid (∀ w', wX.grownBy w' none → _) := qh fun w' h' => HAN.out w' (HA6.out.grown h')
    clear hgd h6 h6l
    go_wp2_with (go_at_call 58; ((with_reducible refine (HQ2.out _ (grown_alloc (grown_refl _ _) _)).mono ?_); rintro e w1 ⟨v, rfl, hA1, hS1, hD1, hf1⟩; have HA1 := qh hA1; have HS1 := qh hS1; have HD1 := qh hD1; have HF1 := qh hf1; clear hA1 hS1 hD1 hf1))
    have HG1 : Hid (w.grownBy (wX.alloc (.cells #[.int .u8 n.k, .int .i64 n.f, .int .u32 0, .bool false, .int .u64 0] 80)) none) := qh (grown_alloc (grown_trans HG.out HGD.out) _)
    exact calm_ret ⟨_, results_tmp rfl _ _ _, v, rfl, HA1.out, HS1.out, (Did.of_grown F HG1.out).trans HD1.out, fun k hk => Nat.le_trans HG1.out.size (HF1.out k hk)⟩
  · skip
    go_simp
    refine hK.out _ _ (grown_alloc HD0.out _) (fun hHeld => ?_)
    clear hK K
    try simp only [lay]
    refine rd1 (i := 12) (o := ⟨some 30, Op.call { callee := Callee.value (.func 62), args := #[(.tmp 25), (.tmp 27), (.tmp 29)], argTypes := #[47, 5, 3] }, _, _, _, _⟩) rfl (fun K hK => ?_)
    go_simp
    (with_reducible refine (HQ.out _ hHeld).mono ?_); rintro e wg ⟨rfl, hg5⟩; have HGG := qh (grown_trans hHeld hg5); have HZ7 := qh ((hg5.block wd.heap.size (by simp) (by simp)).trans (heap_alloc_new _ _))
    go_wp2_with fail
    refine hK.out _ _ HGG.out (fun hHeld => ?_)
    clear hK K
    try simp only [lay]
    refine hh.tl 13 ⟨some 17, Op.move (.tmp 30), _, _, _, _⟩ ?v19 rfl ?hy19 ?_
    case hy19 => ((intro w0 hSw; go_simp); try (with_reducible rfl))
    try simp only [lay]
    refine hh.tl 14 ⟨some 31, Op.extract (.tmp 17) 0, _, _, _, _⟩ ?v20 rfl ?hy20 ?_
    case hy20 => ((intro w0 hSw; go_simp); try (with_reducible rfl))
    try simp only [lay]
    refine hh.tl 15 ⟨some 32, Op.extract (.tmp 17) 1, _, _, _, _⟩ ?v21 rfl ?hy21 ?_
    case hy21 => ((intro w0 hSw; go_simp); try (with_reducible rfl))
    try simp only [lay]
    refine hh.tl 16 ⟨some 33, Op.extract (.tmp 17) 2, _, _, _, _⟩ ?v22 rfl ?hy22 ?_
    case hy22 => ((intro w0 hSw; go_simp); try (with_reducible rfl))
    try simp only [lay]
    refine hh.tl 18 ⟨some 5, Op.assign (.tmp 31), _, _, _, _⟩ ?v23 rfl ?hy23 ?_
    case hy23 => ((intro w0 hSw; go_simp); try (with_reducible rfl))
    try simp only [lay]
    have z0 := cr HZ7.out 0 rfl
    have zf0 : wg.frozen? ⟨wd.heap.size, 0, none⟩ = false := by simp [World.frozen?, HZ7.out]
    refine rd1 (i := 19) (o := ⟨none, Op.store 5 (.tmp 6) (.tmp 32), _, _, _, _⟩) rfl (fun K hK => ?_)
    go_simp
    refine hK.out _ _ (grown_put1 HGG.out HD0.out.size) (fun hHeld => ?_)
    clear hK K
    try simp only [lay]
    refine hh.tl 20 ⟨some 7, Op.assign (.tmp 33), _, _, _, _⟩ ?v24 rfl ?hy24 ?_
    case hy24 => ((intro w0 hSw; go_simp); try (with_reducible rfl))
    try simp only [lay]
    refine wpAnyH_done (by kernel_rfl) ?_ _
    clear hHeld z0 zf0
    obtain ⟨wX, hX⟩ : ∃ wX, wg.setCell ⟨wd.heap.size, 0, none⟩ (.int .u8 by1) = wX := ⟨_, rfl⟩
    have hgd : wb.grownBy wX none := by rw [← hX]; exact grown_put1 HGG.out HD0.out.size
    have h6 : wX.heap[wd.heap.size]? = some (.cells #[.int .u8 by1] 5 (0, 0)) := by rw [← hX]; exact put_one HZ7.out _
    have h6l : wb.heap.size ≤ wd.heap.size := HD0.out.size
    rw [hX]
    obtain ⟨B6, hB⟩ : ∃ B, wd.heap.size = B := ⟨_, rfl⟩
    rw [hB] at h6 h6l ⊢
    clear hB hX HGG HD0 HZ7
    have HA6 := qh (HA.out _ hgd)
    have HGD := qh hgd
    have HB6 : Hid (wX.heap[w.heap.size]? = some (.cells (na n) 31 (0, 0))) := qh ((hgd.block _ (lt_of HBX.out) (by simp)).trans HBX.out)
    obtain ⟨_, _, f0, f1, f3⟩ := HK.out _ hgd
    have hl : w.heap.size < wX.heap.size := lt_of HB6.out
    have hl2 : ¬ w.heap.size = wX.heap.size := Nat.ne_of_lt hl
    have HQ2 : Hid (∀ w', wX.grownBy w' none → _) := qh fun w' h' => HAN.out w' (HA6.out.grown h')
    clear hgd h6 h6l
    go_wp2_with (go_at_call 58; ((with_reducible refine (HQ2.out _ (grown_alloc (grown_refl _ _) _)).mono ?_); rintro e w1 ⟨v, rfl, hA1, hS1, hD1, hf1⟩; have HA1 := qh hA1; have HS1 := qh hS1; have HD1 := qh hD1; have HF1 := qh hf1; clear hA1 hS1 hD1 hf1))
    have HG1 : Hid (w.grownBy (wX.alloc (.cells #[.int .u8 n.k, .int .i64 n.f, .int .u32 0, .bool false, .int .u64 0] 80)) none) := qh (grown_alloc (grown_trans HG.out HGD.out) _)
    exact calm_ret ⟨_, results_tmp rfl _ _ _, v, rfl, HA1.out, HS1.out, (Did.of_grown F HG1.out).trans HD1.out, fun k hk => Nat.le_trans HG1.out.size (HF1.out k hk)⟩
end
end Go.Proofs.YtenhdijbcdkfbaaDoor.hh
