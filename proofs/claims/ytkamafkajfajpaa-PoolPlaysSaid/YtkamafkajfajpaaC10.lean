/-
  The law PoolCopies returns true: the walk. No condition beyond that the lists have their values.
-/
import Derived.Test.YtkamafkajfajpaaC9
import Derived.Test.YtkamafkajfajpaaR
import Derived.Sort.QuietIn
namespace Go.Proofs.Ytkamafkajfajpaa.pp
open Go Go.RowKit Go.Shelf
set_option linter.unusedVariables false
attribute [local go_sem] Oper.semAt_some

theorem OpsAt.below {w w' : World} {ad : Option Addr} {os : List (Int × Int × Int)} (h : OpsAt w ad os) (hb : Below w.heap.size w w') : OpsAt w' ad os := fun k x hk => by
  obtain ⟨b, off, rfl, h0, h1, h2⟩ := h k x hk
  have hl := World.block_lt_of_cell? w _ h0
  exact ⟨b, off, rfl, (hb.cell (p := ⟨b, off + k * 3, none⟩) hl).trans h0, (hb.cell (p := ⟨b, off + (k * 3 + 1), none⟩) hl).trans h1, (hb.cell (p := ⟨b, off + (k * 3 + 2), none⟩) hl).trans h2⟩

theorem erase_le (xs : List Int) (k : Nat) : (xs.eraseIdx k).length ≤ xs.length := by rw [List.length_eraseIdx]; split <;> omega

theorem Pool.alloc {w : World} {T e : TypeId} {b : Nat} {v : Value} {room : Nat} {xs : List Value} (h : Pool w T e b v room xs) (o : Obj) : Pool (w.alloc o) T e b v room xs :=
  h.of_block (Below.heap_alloc _ _ _ h.lt) (fun g hg => Below.heap_alloc _ _ _ (h.sl.lt g hg))

/-- Put, whatever the pool. -/
theorem put_some (b : Nat) (v : Value) (room : Nat) (xs : List Int) (x : Int) (w : World) (hP : IPool w b v room xs) (hl : xs.length ≤ room) (hr : room ≤ 65536) :
    Calls Try.prog 13 #[.pointer (some ⟨b, 0, none⟩), .int .i64 x] w fun e w' => ∃ (c : Int) (v' : Value) (ys : List Int), e = .returned (.int .i64 c) ∧ IPool w' b v' room ys ∧ ys.length ≤ room ∧ Turn w w' b v v' := by
  by_cases h : xs.length < room
  · exact (put_ok b v room xs x w hP h hr).mono fun e w' ⟨he, v', hp, ht⟩ => ⟨0, v', _, he, hp, by simp; omega, ht⟩
  · refine (put_full b v room xs x w hP (by omega) hr).mono fun e w' ⟨he, n, hw⟩ => ⟨7, v, xs, he, by rw [hw]; exact hP.drewN n, hl, ?_⟩
    rw [hw]; exact ⟨rfl, rfl, rfl, Nat.le_refl _, fun _ _ _ _ => rfl, .inl rfl⟩
/-- Take, whatever the pool. -/
theorem take_some (b : Nat) (v : Value) (room : Nat) (xs : List Int) (i : Int) (w : World) (hP : IPool w b v room xs) (hl : xs.length ≤ room) (hr : room ≤ 65536) :
    Calls Try.prog 9 #[.pointer (some ⟨b, 0, none⟩), .int .i64 i] w fun e w' => ∃ (x c : Int) (v' : Value) (ys : List Int), e = .returned (.tuple #[.int .i64 x, .int .i64 c]) ∧ IPool w' b v' room ys ∧ ys.length ≤ room ∧ Turn w w' b v v' := by
  by_cases h : i < 0 ∨ (xs.length : Int) ≤ i
  · exact (take_out b v room xs i w hP h).mono fun e w' ⟨he, hw⟩ => ⟨0, 5, v, xs, he, hw ▸ hP, hl, hw ▸ Turn.refl w b v⟩
  · obtain ⟨k, rfl⟩ : ∃ k : Nat, i = (k : Int) := ⟨i.toNat, by omega⟩
    have hk : k < xs.length := by omega
    exact (take_in b v room xs k _ w hP (List.getElem?_eq_getElem hk) (by omega)).mono fun e w' ⟨he, v', hp, ht⟩ => ⟨_, 0, v', _, he, hp, Nat.le_trans (erase_le xs k) hl, ht⟩

/-- Two boxed variables side by side. -/
def V2 (wr : World) (n : Nat) (t1 t2 : TypeId) (v1 v2 : Value) : Prop := Boxed wr n t1 v1 ∧ Boxed wr (n + 1) t2 v2
theorem V2.turn {w w' : World} {b n : Nat} {t1 t2 : TypeId} {u1 u2 v v' : Value} (h : V2 w n t1 t2 u1 u2) (hT : Turn w w' b v v') (hb : n + 2 ≤ b) (hv : ∀ k, v.ownBlock = some k → n + 2 ≤ k) : V2 w' n t1 t2 u1 u2 :=
  ⟨h.1.turn hT (by omega) (fun e => by have := hv _ e.symm; omega), h.2.turn hT (by omega) (fun e => by have := hv _ e.symm; omega)⟩
theorem V2.below {w w' : World} {m n : Nat} {t1 t2 : TypeId} {u1 u2 : Value} (h : V2 w n t1 t2 u1 u2) (hb : Below m w w') (hn : n + 2 ≤ m) : V2 w' n t1 t2 u1 u2 :=
  ⟨h.1.below hb (by omega), h.2.below hb (by omega)⟩
theorem V2.alloc {w : World} {n : Nat} {t1 t2 : TypeId} {u1 u2 : Value} (h : V2 w n t1 t2 u1 u2) (o : Obj) : V2 (w.alloc o) n t1 t2 u1 u2 := ⟨h.1.alloc o, h.2.alloc o⟩
theorem two_boxes {w w1 : World} {t1 t2 : TypeId} {v1 v2 : Value} (h : Below ((w.alloc (.cells #[v1] t1)).alloc (.cells #[v2] t2)).heap.size ((w.alloc (.cells #[v1] t1)).alloc (.cells #[v2] t2)) w1) :
    V2 w1 w.heap.size t1 t2 v1 v2 ∧ w.heap.size + 2 ≤ w1.heap.size ∧ Below w.heap.size w w1 := by
  have b1 := (Boxed.new w t1 v1).alloc (.cells #[v2] t2)
  have b2 := Boxed.new (w.alloc (.cells #[v1] t1)) t2 v2
  rw [World.size_alloc] at b2
  have hs := h.size
  simp only [World.size_alloc] at hs
  refine ⟨⟨(h.block _ (by simp; omega)).trans b1, (h.block _ (by simp)).trans b2⟩, by omega, ?_⟩
  exact (((Below.refl _ _).alloc (Nat.le_refl _) _).alloc (by simp) _).trans (h.mono (by simp; omega))
theorem v2_alloc {w w' : World} {n : Nat} {t1 t2 : TypeId} {u1 u2 : Value} {o : Obj} (h : V2 w n t1 t2 u1 u2) (hw : w' = w.alloc o) : V2 w' n t1 t2 u1 u2 ∧ w'.heap.size = w.heap.size + 1 := by
  subst hw; exact ⟨h.alloc o, by simp⟩

theorem wide_fn (f : FuncId) : Fence.wide.fn f = True := rfl
attribute [local simp] wide_fn

set_option maxRecDepth 1000000 in
set_option maxHeartbeats 8000000 in
theorem copies_some (xs : List Int) (os : List (Int × Int × Int)) (ad ao : Option Addr) (len cap lenO capO : Nat) (w : World) (hlen : len = xs.length) (hat : At w ad (xs.map I)) (hlo : lenO = os.length) (hao : OpsAt w ao os) (h300 : len ≤ 300) (h3 : lenO ≤ 300) :
    Calls Try.prog 8 #[.slice ad len cap, .slice ao lenO capO] w fun e w' => e = .returned (.bool true) ∧ Below w.heap.size w w' := by
  refine (callsIn_wide (n := 5)).1 ?_
  have HAT := Lib.hid hat
  have HL := Lib.hid hlen
  have HAO := Lib.hid hao
  have HLO := Lib.hid hlo
  have HN0 : ∀ w : World, Calls Try.prog 11 #[.int .i64 400] w fun e w' => e = .returned (.tuple #[.pointer (some ⟨w.heap.size, 0, none⟩), .int .i64 0]) ∧ w' = w.alloc (.cells #[.slice none 0 0, .int .i64 ((400 : Nat) : Int)] 63) := fun w => new_ok 400 w (by omega) (by omega)
  have HN := Lib.hid HN0
  clear hat hlen hao hlo HN0
  refine callsIn_of_wp_marks Try.func8 rfl trivial ?_ rfl
  simp only [Try.ntmps8, List.size_toArray, List.length_cons, List.length_nil, Nat.reduceAdd, Nat.reduceSub, Array.replicate_succ, Array.replicate_zero, List.push_toArray, List.append_toArray, List.nil_append, List.cons_append]
  gi_wp2_with (first
    | (gi_at_call 12; refine (callsIn_wide.2 (ps.works_any _)).mono ?_; rintro e w1 ⟨rfl, hb1⟩; obtain ⟨hv1, hs1, hw1⟩ := two_boxes hb1; have hl := Go.Boxed.cell hv1.1; clear hb1)
    | (gi_at_call 11; refine (callsIn_wide.2 (HN.out _)).mono ?_; rintro e w2 ⟨rfl, hw2⟩; obtain ⟨hv2, hs2⟩ := v2_alloc hv1 hw2; have hp2 : IPool w2 w1.heap.size (.slice none 0 0) 400 [] := pool_new hw2; have hb2 := below_alloc hw1 (by omega) hw2; have hl2 := Go.Boxed.cell hv2.1; clear hw2 hl hv1 hw1))
  gi_loopw [33] (fun i wr => ∃ (k : Nat) (v : Value), k ≤ len ∧ i = .int .i64 (k : Int) ∧ V2 wr w.heap.size 39 4 (.slice ad len cap) (.bool false) ∧ IPool wr w1.heap.size v 400 (xs.take k) ∧ Below w.heap.size w wr ∧ (∀ j, v.ownBlock = some j → w1.heap.size ≤ j) ∧ w1.heap.size ≤ wr.heap.size) (fun i _ => len - (intOf i).toNat)
  case atStart =>
    exact ⟨0, _, Nat.zero_le _, rfl, hv2, hp2, hb2, fun j hj => by simp [Value.ownBlock] at hj, by omega⟩
  case round =>
    clear hv2 hp2 hb2 hl2 hs2
    obtain ⟨k, v, hk, rfl, hv2, hp, hb, hv, hsr⟩ := hrel
    have HP := Lib.hid hp
    have HB := Lib.hid hb
    have HV := Lib.hid hv
    have HV2 := Lib.hid hv2
    clear hp hb hv
    by_cases hlt : k < len
    · obtain ⟨x, hx⟩ : ∃ x, xs[k]? = some x := ⟨_, List.getElem?_eq_getElem (by have := HL.out; omega)⟩
      obtain ⟨g, off, rfl, hcell⟩ := (HAT.out.below HB.out) k (I x) (by simp [hx])
      have hpu := put_ok _ _ 400 _ x _ HP.out (by rw [List.length_take]; omega) (by omega)
      rw [snoc_take xs k x hx] at hpu
      have HQ := Lib.hid hpu
      unfold I at hcell
      clear hx hpu hv2
      gi_wp2_with (gi_at_call 13; refine (callsIn_wide.2 HQ.out).mono ?_; rintro e w3 ⟨rfl, v3, hp3, ht3⟩; have HP3 := Lib.hid hp3; have HT3 := Lib.hid ht3; clear hp3 ht3)
      obtain ⟨hB2, _⟩ := Turn.on HB.out HT3.out (by omega) (by omega) (fun j hj => by have := HV.out j hj; omega)
      have hV2 := HT3.out.next.ge hsr HV.out
      have hs3 := HT3.out.size
      have hv3 := HV2.out.turn HT3.out hs1 (fun j hj => by have := HV.out j hj; omega)
      go_roundw
      case rel => exact ⟨k + 1, v3, by omega, by go_num, hv3, HP3.out, hB2, hV2, by omega⟩
      case measure => simp [intOf]; omega
    · have hkn : k = len := by omega
      subst hkn
      have hl := Go.Boxed.cell hv2.1
      have hp' := HP.out
      rw [List.take_of_length_le (by have := HL.out; omega)] at hp'
      have HP' := Lib.hid hp'
      have HC := Lib.hid (copy_any _ _ 400 xs _ hp' (by have := HL.out; omega))
      clear hp' HP hv2
      gi_wp2_with (gi_at_call 17; refine (callsIn_wide.2 HC.out).mono ?_; rintro e wc ⟨bq, vq, rfl, hbq, hpq, hgq, hvq⟩; have HPQ := Lib.hid hpq; have HGQ := Lib.hid hgq; have HVQ := Lib.hid hvq; clear hpq hgq hvq)
      have hbc : Below wr.heap.size wr wc := (Below.refl _ _).grown HGQ.out (Nat.le_refl _) (fun k e => by cases e)
      gi_loopw [45] (fun i W => ∃ (j : Nat) (v' : Value) (ys : List Int), j ≤ lenO ∧ i = .int .i64 (j : Int) ∧ Below wr.heap.size wr W ∧ IPool W bq v' 400 ys ∧ ys.length ≤ 400 ∧ (∀ k, v'.ownBlock = some k → wr.heap.size ≤ k)) (fun i _ => lenO - (intOf i).toNat)
      case atStart =>
        exact ⟨0, vq, xs, Nat.zero_le _, rfl, hbc, HPQ.out, by have := HL.out; omega, HVQ.out⟩
      case round =>
        clear hl
        clear hbc HPQ HGQ HVQ HC
        obtain ⟨j, v', ys, hj, rfl, hbe, hp, hyl, hv'⟩ := hrel
        have HBE := Lib.hid hbe
        have HPW := Lib.hid hp
        have HVW := Lib.hid hv'
        have hse := hbe.size
        clear hbe hp hv'
        by_cases hlt2 : j < lenO
        · obtain ⟨⟨kk, ii, xx⟩, hx⟩ : ∃ x, os[j]? = some x := ⟨_, List.getElem?_eq_getElem (by have := HLO.out; omega)⟩
          obtain ⟨g, off, rfl, hc0, hc1, hc2⟩ := (HAO.out.below (HB.out.trans (HBE.out.mono HB.out.size))) j _ hx
          have hc1' := hc1
          have hc2' := hc2
          rw [← Nat.add_assoc] at hc1' hc2'
          clear hx
          by_cases hk0 : kk = 0
          · subst hk0
            gi_wp2_with (gi_at_call 13; refine (callsIn_wide.2 (put_some _ _ 400 _ _ _ (Pool.alloc HPW.out _) hyl (by omega))).mono ?_; rintro e w4 ⟨c, v4, ys4, rfl, hp4, hy4, ht4⟩; have HP4 := Lib.hid hp4; have HT4 := Lib.hid ht4; clear hp4 ht4)
            obtain ⟨hB4, hV4⟩ := Turn.on (HBE.out.alloc (by omega) _) HT4.out (by simp; omega) hbq HVW.out
            go_roundw
            case rel => exact ⟨j + 1, v4, ys4, by omega, by go_num, hB4, HP4.out, hy4, hV4⟩
            case measure => simp [intOf]; omega
          · by_cases hk1 : kk = 1
            · subst hk1
              gi_wp2_with (gi_at_call 9; refine (callsIn_wide.2 (take_some _ _ 400 _ _ _ (Pool.alloc HPW.out _) hyl (by omega))).mono ?_; rintro e w4 ⟨c, c', v4, ys4, rfl, hp4, hy4, ht4⟩; have HP4 := Lib.hid hp4; have HT4 := Lib.hid ht4; clear hp4 ht4)
              obtain ⟨hB4, hV4⟩ := Turn.on (HBE.out.alloc (by omega) _) HT4.out (by simp; omega) hbq HVW.out
              go_roundw
              case rel => exact ⟨j + 1, v4, ys4, by omega, by go_num, hB4, HP4.out, hy4, hV4⟩
              case measure => simp [intOf]; omega
            · have e0 : (kk == 0) = false := by simp [hk0]
              have e1 : (kk == 1) = false := by simp [hk1]
              clear hk0 hk1
              gi_wp2
              have hP4 := Pool.alloc HPW.out (.cells #[.int .i64 kk, .int .i64 ii, .int .i64 xx] 38)
              have hB4 := HBE.out.alloc (by omega) (.cells #[.int .i64 kk, .int .i64 ii, .int .i64 xx] 38)
              go_roundw
              case rel => exact ⟨j + 1, v', ys, by omega, by go_num, hB4, hP4, hyl, HVW.out⟩
              case measure => simp [intOf]; omega
        · have hjn : j = lenO := by omega
          subst hjn
          have hv2 := HV2.out.below HBE.out (by omega)
          have hpp : IPool _ w1.heap.size v 400 xs := HP'.out.of_block (HBE.out.block _ HP'.out.lt) (fun g hg => HBE.out.block g (HP'.out.sl.lt g hg))
          have HPP := Lib.hid hpp
          have hl := Go.Boxed.cell hv2.1
          have hne : ((k : Int) != (k : Int)) = false := by simp
          have hne2 : ((400 : Int) - (k : Int) != (400 : Int) - (k : Int)) = false := by simp
          have HLen : Hid (∀ n, Calls Try.prog 14 #[.pointer (some ⟨w1.heap.size, 0, none⟩)] (World.drewN _ n) fun e w' => e = .returned (.int .i64 (k : Int)) ∧ w' = World.drewN _ n) := Lib.hid (fun n => (len_any _ v 400 xs _ (hpp.drewN n)).mono fun e w' ⟨h1, h2⟩ => ⟨by rw [h1, HL.out], h2.symm⟩)
          have HRoom : Hid (∀ n, Calls Try.prog 15 #[.pointer (some ⟨w1.heap.size, 0, none⟩)] (World.drewN _ n) fun e w' => e = .returned (.int .i64 ((400 : Int) - (k : Int))) ∧ ∃ m, w' = World.drewN (World.drewN _ n) m) := Lib.hid (fun n => (room_any _ v 400 xs _ (hpp.drewN n) (by have := HL.out; omega) (by omega)).mono fun e w' ⟨h1, h2⟩ => ⟨by rw [h1, HL.out]; rfl, h2⟩)
          clear hpp hv2
          gi_wp2_with fail
          gi_quiet (first
            | (gi_at_call 14; exact CallsIn.quiet_of_same (callsIn_wide.2 (HLen.out _)))
            | (gi_at_call 15; exact CallsIn.quiet_of (callsIn_wide.2 (HRoom.out _))))
          gi_wp2_with (gi_at_call 22; refine (all_in _ _ _).mono ?_; rintro e w' ⟨rfl, rfl⟩)
          have HBF := Lib.hid (HB.out.trans (HBE.out.mono HB.out.size))
          obtain ⟨wz, hwz⟩ : ∃ wz, wz = wr.drewN nq := ⟨_, rfl⟩
          have hpz : IPool wz w1.heap.size v 400 xs := by rw [hwz]; exact HPP.out.drewN nq
          have hvz : V2 wz w.heap.size 39 4 (.slice ad k cap) (.bool false) := by rw [hwz]; exact HV2.out.below (below_drewN HBE.out nq) (by omega)
          have hbz : Below w.heap.size w wz := by rw [hwz]; exact below_drewN HBF.out nq
          have hszz : wz.heap.size = wr.heap.size := by rw [hwz]; rfl
          rw [← hwz]
          clear hwz
          have bp := Boxed.new wz 22 (.pointer (some ⟨w1.heap.size, 0, none⟩))
          rw [hszz] at bp
          have hK0 : Below wz.heap.size wz (wz.alloc (.cells #[.pointer (some ⟨w1.heap.size, 0, none⟩)] 22)) := (Below.refl _ _).alloc (Nat.le_refl _) _
          have hsz := hbz.size
          have hpW := Pool.alloc hpz (.cells #[.pointer (some ⟨w1.heap.size, 0, none⟩)] 22)
          have hvW := hvz.alloc (.cells #[.pointer (some ⟨w1.heap.size, 0, none⟩)] 22)
          have hB0 : Below w.heap.size w (wz.alloc (.cells #[.pointer (some ⟨w1.heap.size, 0, none⟩)] 22)) := hbz.alloc (by omega) _
          have hvl : ∀ j, v.ownBlock = some j → j < wz.heap.size := hpz.sl.lt
          obtain ⟨W0, hW0⟩ : ∃ W0, W0 = wz.alloc (.cells #[.pointer (some ⟨w1.heap.size, 0, none⟩)] 22) := ⟨_, rfl⟩
          have hs0 : W0.heap.size = wz.heap.size + 1 := by rw [hW0]; simp
          rw [← hW0] at bp hK0 hpW hvW hB0 ⊢
          clear hW0
          apply wpIn_rangeFunc_ownF rfl (by omega) (gf := 32) (lb := #[.pointer (some ⟨wr.heap.size, 0, none⟩)]) rfl trivial (enters_of Try.func32 (by kernel_rfl) rfl)
            (fin_stops (5 - 1) (by omega) wr.heap.size w1.heap.size v 400 k xs HL.out W0 hpW (by omega) bp.cell) (fun {A B C} => Same.trans) (Same.put (fun j hj => by have := hvl j hj; omega)) (Below.refl _ _) (fun _ => rfl)
            (fun pre W => V2 W w.heap.size 39 4 (.slice ad k cap) (.bool false) ∧ Below w.heap.size w W)
            (fun c ys W => False)
            (OwnFrom.and (Own.from (fun s A B row hs hg hr => ⟨boxed_own hs.1 hg hr, boxed_own hs.2 hg hr⟩) _) (ownFrom_below (Nat.le_refl _) (by omega)))
            (fun c' _ _ _ _ hs _ _ => hs)
            ⟨hvW, hB0⟩
          case hassign =>
            intro l x W K hK
            have HK := Lib.hid hK
            clear hK
            unfold encF
            gi_wp2
            exact HK.out
          case hbody =>
            rintro l pre ⟨i, hi⟩ W ⟨hv2, hB⟩ hlt
            obtain ⟨y, hy⟩ : ∃ y, xs[i]? = some y := ⟨_, List.getElem?_eq_getElem (by have := HL.out; omega)⟩
            have hg : xs[i]?.getD 0 = y := by rw [hy]; rfl
            obtain ⟨g, off, rfl, hcell⟩ := (HAT.out.below hB) i (I y) (by simp [hy])
            unfold I at hcell
            have hl := Go.Boxed.cell hv2.1
            have hyy : (y != y) = false := by simp
            clear hy
            gi_wp2
            exact ⟨KeepsOthers.refl _, Same.refl _ _, hv2, hB⟩
          case hdone =>
            rintro D ys W hD rfl ⟨hv2, hB⟩ hK
            gi_wp2_with (gi_at_call 12; refine (callsIn_wide.2 (ps.works_any _)).mono ?_; rintro e w5 ⟨rfl, hb5⟩; have hr5 := hv2.2.below hb5 (Go.Boxed.lt hv2.2); have hrc5 := Go.Boxed.cell hr5; have hrf5 := Go.Boxed.frozen hr5)
            exact ends_true rfl hr5 rfl ((hb5.block D (Array.getElem?_eq_some_iff.1 hK).1).trans hK) (by omega) (by omega) (by omega) (hB.trans (hb5.mono hB.size))
          case hstop =>
            rintro D c ys W hD hpre h
            exact h.elim

set_option maxRecDepth 1000000 in
set_option maxHeartbeats 4000000 in
theorem copies_true (xs : List Int) (os : List (Int × Int × Int)) (ad ao : Option Addr) (len cap lenO capO : Nat) (w : World) (hlen : len = xs.length) (hat : At w ad (xs.map I)) (hlo : lenO = os.length) (hao : OpsAt w ao os) :
    Calls Try.prog 8 #[.slice ad len cap, .slice ao lenO capO] w fun e w' => e = .returned (.bool true) ∧ Below w.heap.size w w' := by
  by_cases h : len ≤ 300 ∧ lenO ≤ 300
  · exact copies_some xs os ad ao len cap lenO capO w hlen hat hlo hao h.1 h.2
  · refine (callsIn_wide (n := 5)).1 ?_
    clear hat hlen hlo hao
    by_cases h3 : len ≤ 300
    · have h4 : ¬ lenO ≤ 300 := by omega
      clear h
      refine callsIn_of_wp_marks Try.func8 rfl trivial ?_ rfl
      simp only [Try.ntmps8, List.size_toArray, List.length_cons, List.length_nil, Nat.reduceAdd, Nat.reduceSub, Array.replicate_succ, Array.replicate_zero, List.push_toArray, List.append_toArray, List.nil_append, List.cons_append]
      gi_wp2_with (first
        | (gi_at_call 12; refine (callsIn_wide.2 (ps.works_any ((w.alloc _).alloc _))).mono ?_; rintro e w1 ⟨rfl, hb1⟩; obtain ⟨hv, hs1, hw1⟩ := two_boxes hb1; have hl := Go.Boxed.cell hv.1; clear hb1)
        | (gi_at_call 12; refine (callsIn_wide.2 (ps.works_any _)).mono ?_; rintro e w2 ⟨rfl, hb2⟩; have hr5 := hv.2.below hb2 (by omega); have hrc5 := Go.Boxed.cell hr5; have hrf5 := Go.Boxed.frozen hr5))
      exact ends_true0 rfl hr5 rfl (by omega) (hw1.trans (hb2.mono (by omega)))
    · clear h
      refine callsIn_of_wp_marks Try.func8 rfl trivial ?_ rfl
      simp only [Try.ntmps8, List.size_toArray, List.length_cons, List.length_nil, Nat.reduceAdd, Nat.reduceSub, Array.replicate_succ, Array.replicate_zero, List.push_toArray, List.append_toArray, List.nil_append, List.cons_append]
      gi_wp2_with (first
        | (gi_at_call 12; refine (callsIn_wide.2 (ps.works_any ((w.alloc _).alloc _))).mono ?_; rintro e w1 ⟨rfl, hb1⟩; obtain ⟨hv, hs1, hw1⟩ := two_boxes hb1; have hl := Go.Boxed.cell hv.1; clear hb1)
        | (gi_at_call 12; refine (callsIn_wide.2 (ps.works_any _)).mono ?_; rintro e w2 ⟨rfl, hb2⟩; have hr5 := hv.2.below hb2 (by omega); have hrc5 := Go.Boxed.cell hr5; have hrf5 := Go.Boxed.frozen hr5))
      exact ends_true0 rfl hr5 rfl (by omega) (hw1.trans (hb2.mono (by omega)))
end Go.Proofs.Ytkamafkajfajpaa.pp
