/-
  What Take of package code answers. The tables are as the program's text lays them (Tab).
-/
import Derived.Test.YtncohgcklmogpaaDoorCdE
namespace Go.Proofs.YtncohgcklmogpaaDoor.cd
open Go Go.ChangeShapes Go.WideShapes Go.ChangeAt Go.RowKit
set_option linter.unusedVariables false
set_option linter.unusedSimpArgs false
set_option maxRecDepth 1000000

theorem keep8 {w : World} {k : Nat} {a0 a1 a2 a3 a4 a5 a6 a7 : Value} {u : TypeId} {fs : Nat × Nat} (hC : w.heap[k]? = some (.cells #[a0, a1, a2, a3, a4, a5, a6, a7] u fs)) (w' : World) (hg : w.grownBy w' none) :
    (w'.cell? ⟨k, 0, none⟩ = some a0 ∧ w'.cell? ⟨k, 1, none⟩ = some a1 ∧ w'.cell? ⟨k, 2, none⟩ = some a2 ∧ w'.cell? ⟨k, 3, none⟩ = some a3) ∧ w'.cell? ⟨k, 4, none⟩ = some a4 ∧ w'.cell? ⟨k, 5, none⟩ = some a5 ∧ w'.cell? ⟨k, 6, none⟩ = some a6 ∧ w'.cell? ⟨k, 7, none⟩ = some a7 := by
  have h := row_grown hC hg
  exact ⟨⟨cell_of_row _ _ 0 _ _ _ h, cell_of_row _ _ 1 _ _ _ h, cell_of_row _ _ 2 _ _ _ h, cell_of_row _ _ 3 _ _ _ h⟩, cell_of_row _ _ 4 _ _ _ h, cell_of_row _ _ 5 _ _ _ h, cell_of_row _ _ 6 _ _ _ h, cell_of_row _ _ 7 _ _ _ h⟩
/-- A function whose results are an instruction's variable and an error. -/
theorem ret2c {fn : Func} {p u : Tmp} (h : fn.results = #[.cell p 27, .tmp u]) {tmps : Array Value} {w : World} {g : Nat} {t : TypeId} {c : Cd} {x : Value} {fr : Nat × Nat} {Q : Ending → World → Prop}
    (hp : tmps.getD p undef = .pointer (some ⟨g, 0, none⟩)) (hu : tmps.getD u undef = x) (hg : w.heap[g]? = some (.cells (ca c) t fr)) (hQ : Q (.returned (.tuple #[.agg (ca c), x])) w) : bodyPost Tryd.prog fn Q .ret { tmps := tmps, defers := [] } w := by
  refine bodyPost_ret (v := .tuple #[.agg (ca c), x]) ?_ rfl hQ
  have hl := run_loadVar_row (P := Tryd.prog) w g t 27 (ca c) fr _ hg Tryd.underlying27 rfl (infoC _ _ _ _ _)
  have hp' : tmps[p]?.getD undef = .pointer (some ⟨g, 0, none⟩) := by simpa using hp
  have hu' : tmps[u]?.getD undef = x := by simpa using hu
  simp [results, h, hp', hu', asAddr, hl]
set_option maxHeartbeats 1000000 in
theorem take_big (x : Nat) (w : World) (hx : x < 4294967296) (ho : ¬ x / 67108864 < 22) : Calls Tryd.prog 9 #[.int .u32 (x : Int)] w fun e w' => e = .returned (.tuple #[.agg (ca (tk x)), .int .i64 (terr (tok x))]) ∧ w.grownBy w' none := by
  have hf : tok x = false := decide_eq_false (fun h => ho h.1)
  unfold tk
  rw [hf]
  obtain ⟨op, hop⟩ : ∃ op, op = x / 67108864 := ⟨_, rfl⟩
  have h26 : (x : Int) / 67108864 = (op : Int) := by omega
  have hge : 22 ≤ op := by omega
  have HR := Lib.hid (heap_alloc_new w (.cells #[.int .u8 0, .int .i64 0, .int .i64 0, .int .i64 0, .int .i64 0] 27))
  have HG : Hid (w.grownBy (w.alloc (.cells #[.int .u8 0, .int .i64 0, .int .i64 0, .int .i64 0, .int .i64 0] 27)) none) := Lib.hid (grown_alloc (grown_refl _ _) _)
  clear hop ho hf
  go_enter Tryd.func9, Tryd.ntmps9
  go_wp2_with fail
  refine ret2c (c := zc) rfl (by rfl) rfl HR.out ?_
  exact ⟨rfl, HG.out⟩
set_option maxHeartbeats 4000000 in
theorem take_small (x : Nat) (w : World) (hT : Tab w) (hx : x < 4294967296) (ho : x / 67108864 < 22) : Calls Tryd.prog 9 #[.int .u32 (x : Int)] w fun e w' => e = .returned (.tuple #[.agg (ca (tk x)), .int .i64 (terr (tok x))]) ∧ w.grownBy w' none := by
  have hf : tok x = decide (wd (rc x) = x) := by unfold tok; simp [ho]
  have HW : Hid (∀ w', w.grownBy w' none → _) := Lib.hid fun w' h => word_any (rc x) w' (hT.grown h) (rc_may x ho)
  have hfm := fm_lt (x / 67108864)
  have hcf := hT.forms _ ho
  have hu := hT.uses _ hfm
  have z1 := World.block_lt_of_cell? w _ hcf
  have z0 := World.block_lt_of_cell? w _ hu.1.1
  simp only at z0 z1
  obtain ⟨ta, tb, tc⟩ := us_to hfm
  have ands := fun y => us_and hfm y
  have andn := fun y => mk_and hfm y
  have tn := mk_us hfm
  have tl := mk_lt (fm (x / 67108864))
  have hrc := rc_form x _ rfl
  unfold tk
  rw [hf]
  have hwd : ∃ v, v = wd (rc x) := ⟨_, rfl⟩
  obtain ⟨v, hv⟩ := hwd
  rw [← hv] at HW ⊢
  clear hf
  obtain ⟨cc, hcc⟩ : ∃ cc, cc = rc x := ⟨_, rfl⟩
  rw [← hcc] at HW hrc ⊢
  generalize hF : fm (x / 67108864) = f at hcf hu hfm ta tb tc ands andn tn tl hrc
  generalize us f = u at hu ta tb tc ands tn hrc
  obtain ⟨la, ha, lb, hb, lc, hc, ln, hn⟩ := u
  simp only at hu ta tb tc ands tn hrc
  obtain ⟨⟨u0, u1, u2, u3⟩, u4, u5, u6, u7⟩ := hu
  have HRa : Hid (∀ w, _) := Lib.hid fun w => read_any la ha ha.toNat (x / 4194304) ta.1 (ands _).1 ta.2 (by omega) w
  have HRb : Hid (∀ w, _) := Lib.hid fun w => read_any lb hb hb.toNat (x / 262144) tb.1 (ands _).2.1 tb.2 (by omega) w
  have HRc : Hid (∀ w, _) := Lib.hid fun w => read_any lc hc hc.toNat (x / 16384) tc.1 (ands _).2.2 tc.2 (by omega) w
  have HRn : Hid (∀ w, _) := Lib.hid fun w => read_any ln hn (mk f) x tn (andn _) tl hx w
  generalize rd ha (ha.toNat + 1) (x / 4194304) = A at HRa hrc
  generalize rd hb (hb.toNat + 1) (x / 262144) = B at HRb hrc
  generalize rd hc (hc.toNat + 1) (x / 16384) = C at HRc hrc
  generalize rd hn (mk f + 1) x = N at HRn hrc
  obtain ⟨op, hop⟩ : ∃ op, op = x / 67108864 := ⟨_, rfl⟩
  obtain ⟨y1, hy1⟩ : ∃ y, y = x / 4194304 := ⟨_, rfl⟩
  obtain ⟨y2, hy2⟩ : ∃ y, y = x / 262144 := ⟨_, rfl⟩
  obtain ⟨y3, hy3⟩ : ∃ y, y = x / 16384 := ⟨_, rfl⟩
  have h26 : (x : Int) / 67108864 = (op : Int) := by omega
  have hwr : IntKind.u8.wrap (op : Int) = (op : Int) := by rw [IntKind.wrap_u8']; omega
  have h22 : (x : Int) / 4194304 = (y1 : Int) := by omega
  have h18 : (x : Int) / 262144 = (y2 : Int) := by omega
  have h14 : (x : Int) / 16384 = (y3 : Int) := by omega
  rw [← hop] at ho hcf hrc
  rw [← hy1] at HRa
  rw [← hy2] at HRb
  rw [← hy3] at HRc
  subst hrc
  obtain ⟨z, hz⟩ : ∃ z, z = decide (v = (x : Int)) := ⟨_, rfl⟩
  rw [← hz]
  have HZ := Lib.hid hz
  clear hz
  clear hT hop hy1 hy2 hy3 hF ta tb tc ands andn tn tl hcc
  have HR := Lib.hid (heap_alloc_new w (.cells #[.int .u8 0, .int .i64 0, .int .i64 0, .int .i64 0, .int .i64 0] 27))
  unfold ca at *
  go_enter Tryd.func9, Tryd.ntmps9
  go_upto_region 5 with fail
  obtain ⟨w3, hw3, hg3, hA3, hC3⟩ := twob w (.cells #[.int .u8 0, .int .i64 0, .int .i64 0, .int .i64 0, .int .i64 0] 27) (.cells #[.int .i64 la, .int .i64 ha, .int .i64 lb, .int .i64 hb, .int .i64 lc, .int .i64 hc, .int .i64 ln, .int .i64 hn] 41)
  rw [hw3]
  have HX : Hid (∀ w', w3.grownBy w' none → _) := Lib.hid fun w' h => keep8 hC3 w' h
  have HGw := Lib.hid hg3
  have HA := Lib.hid hA3
  clear hw3 hg3 hA3 hC3 u0 u1 u2 u3 u4 u5 u6 u7 hcf
  go_cut [6] from 17 to 38 (fun s6 wx => ∃ G, s6 = .pointer (some ⟨G, 0, none⟩) ∧ w3.grownBy wx none ∧ w3.heap.size ≤ G ∧ wx.heap[G]? = some (.cells #[.int .u8 (op : Int), .int .i64 A, .int .i64 B, .int .i64 C, .int .i64 N] 27 (0, 0)))
  case first =>
    refine wp_region_held_drew (S := fun w' => w3.grownBy w' none) (by kernel_rfl) (grown_drew (grown_refl _ _)) (fun hHeld => ?_)
    have HG0 := Lib.hid (grown_drew (grown_refl w3 none))
    generalize w3.drew = X0 at hHeld HG0 ⊢
    refine wpAnyH_take (i := 0) (oi := ⟨some 17, Op.move (Operand.tmp 4), _, _, _, _⟩) (v := ?v1) rfl (by kernel_rfl) (by kernel_rfl) (by kernel_rfl) (fun _ _ _ h => h) (Or.inl ⟨by rfl, ?hy1⟩) (by assumption) ?rest1
    case hy1 => ((intro w0 hSw; go_simp); try (with_reducible rfl))
    try simp only [Act.put, List.setIfInBounds_toArray, List.set_cons_zero, List.set_cons_succ]
    refine wpAnyH_take (i := 1) (oi := ⟨some 18, Op.convert 22 5 (Operand.tmp 17), _, _, _, _⟩) (v := ?v2) rfl (by kernel_rfl) (by kernel_rfl) (by kernel_rfl) (fun _ _ _ h => h) (Or.inl ⟨by rfl, ?hy2⟩) (by assumption) ?rest2
    case hy2 => ((intro w0 hSw; go_simp); try (with_reducible rfl))
    try simp only [Act.put, List.setIfInBounds_toArray, List.set_cons_zero, List.set_cons_succ]
    refine wpAnyH_take (i := 2) (oi := ⟨some 19, Op.fieldAddr 41 (Operand.tmp 5) 0, _, _, _, _⟩) (v := ?v3) rfl (by kernel_rfl) (by kernel_rfl) (by kernel_rfl) (fun _ _ _ h => h) (Or.inl ⟨by rfl, ?hy3⟩) (by assumption) ?rest3
    case hy3 => ((intro w0 hSw; go_simp); try (with_reducible rfl))
    try simp only [Act.put, List.setIfInBounds_toArray, List.set_cons_zero, List.set_cons_succ]
    refine wpAnyH_take (i := 3) (oi := ⟨some 20, Op.load 39 (Operand.tmp 19), _, _, _, _⟩) (v := ?v4) rfl (by kernel_rfl) (by kernel_rfl) (by kernel_rfl) (fun _ _ _ h => h) (Or.inl ⟨by rfl, ?hy4⟩) (by assumption) ?rest4
    case hy4 => ((intro w0 hSw; obtain ⟨⟨c0, c1, c2, c3⟩, c4, c5, c6, c7⟩ := HX.out _ hSw; go_simp); try (with_reducible rfl))
    try simp only [Act.put, List.setIfInBounds_toArray, List.set_cons_zero, List.set_cons_succ]
    refine wpAnyH_take (i := 4) (oi := ⟨some 21, Op.move (Operand.tmp 0), _, _, _, _⟩) (v := ?v5) rfl (by kernel_rfl) (by kernel_rfl) (by kernel_rfl) (fun _ _ _ h => h) (Or.inl ⟨by rfl, ?hy5⟩) (by assumption) ?rest5
    case hy5 => ((intro w0 hSw; go_simp); try (with_reducible rfl))
    try simp only [Act.put, List.setIfInBounds_toArray, List.set_cons_zero, List.set_cons_succ]
    refine wpAnyH_take (i := 5) (oi := ⟨some 22, Op.binOp BinOp.shr 22 (Operand.tmp 21) (Operand.const (Value.int IntKind.u64 22)) _, _, _, _, _⟩) (v := ?v6) rfl (by kernel_rfl) (by kernel_rfl) (by kernel_rfl) (fun _ _ _ h => h) (Or.inl ⟨by rfl, ?hy6⟩) (by assumption) ?rest6
    case hy6 => ((intro w0 hSw; go_simp); try (with_reducible rfl))
    try simp only [Act.put, List.setIfInBounds_toArray, List.set_cons_zero, List.set_cons_succ]
    refine wpAnyH_take (i := 7) (oi := ⟨some 24, Op.fieldAddr 41 (Operand.tmp 5) 1, _, _, _, _⟩) (v := ?v7) rfl (by kernel_rfl) (by kernel_rfl) (by kernel_rfl) (fun _ _ _ h => h) (Or.inl ⟨by rfl, ?hy7⟩) (by assumption) ?rest7
    case hy7 => ((intro w0 hSw; go_simp); try (with_reducible rfl))
    try simp only [Act.put, List.setIfInBounds_toArray, List.set_cons_zero, List.set_cons_succ]
    refine wpAnyH_take (i := 8) (oi := ⟨some 25, Op.load 39 (Operand.tmp 24), _, _, _, _⟩) (v := ?v8) rfl (by kernel_rfl) (by kernel_rfl) (by kernel_rfl) (fun _ _ _ h => h) (Or.inl ⟨by rfl, ?hy8⟩) (by assumption) ?rest8
    case hy8 => ((intro w0 hSw; obtain ⟨⟨c0, c1, c2, c3⟩, c4, c5, c6, c7⟩ := HX.out _ hSw; go_simp); try (with_reducible rfl))
    try simp only [Act.put, List.setIfInBounds_toArray, List.set_cons_zero, List.set_cons_succ]
    refine wpAnyH_take (i := 9) (oi := ⟨some 26, Op.move (Operand.tmp 0), _, _, _, _⟩) (v := ?v9) rfl (by kernel_rfl) (by kernel_rfl) (by kernel_rfl) (fun _ _ _ h => h) (Or.inl ⟨by rfl, ?hy9⟩) (by assumption) ?rest9
    case hy9 => ((intro w0 hSw; go_simp); try (with_reducible rfl))
    try simp only [Act.put, List.setIfInBounds_toArray, List.set_cons_zero, List.set_cons_succ]
    refine wpAnyH_take (i := 10) (oi := ⟨some 27, Op.binOp BinOp.shr 22 (Operand.tmp 26) (Operand.const (Value.int IntKind.u64 18)) _, _, _, _, _⟩) (v := ?v10) rfl (by kernel_rfl) (by kernel_rfl) (by kernel_rfl) (fun _ _ _ h => h) (Or.inl ⟨by rfl, ?hy10⟩) (by assumption) ?rest10
    case hy10 => ((intro w0 hSw; go_simp); try (with_reducible rfl))
    try simp only [Act.put, List.setIfInBounds_toArray, List.set_cons_zero, List.set_cons_succ]
    refine wpAnyH_take (i := 12) (oi := ⟨some 29, Op.fieldAddr 41 (Operand.tmp 5) 2, _, _, _, _⟩) (v := ?v11) rfl (by kernel_rfl) (by kernel_rfl) (by kernel_rfl) (fun _ _ _ h => h) (Or.inl ⟨by rfl, ?hy11⟩) (by assumption) ?rest11
    case hy11 => ((intro w0 hSw; go_simp); try (with_reducible rfl))
    try simp only [Act.put, List.setIfInBounds_toArray, List.set_cons_zero, List.set_cons_succ]
    refine wpAnyH_take (i := 13) (oi := ⟨some 30, Op.load 39 (Operand.tmp 29), _, _, _, _⟩) (v := ?v12) rfl (by kernel_rfl) (by kernel_rfl) (by kernel_rfl) (fun _ _ _ h => h) (Or.inl ⟨by rfl, ?hy12⟩) (by assumption) ?rest12
    case hy12 => ((intro w0 hSw; obtain ⟨⟨c0, c1, c2, c3⟩, c4, c5, c6, c7⟩ := HX.out _ hSw; go_simp); try (with_reducible rfl))
    try simp only [Act.put, List.setIfInBounds_toArray, List.set_cons_zero, List.set_cons_succ]
    refine wpAnyH_take (i := 14) (oi := ⟨some 31, Op.move (Operand.tmp 0), _, _, _, _⟩) (v := ?v13) rfl (by kernel_rfl) (by kernel_rfl) (by kernel_rfl) (fun _ _ _ h => h) (Or.inl ⟨by rfl, ?hy13⟩) (by assumption) ?rest13
    case hy13 => ((intro w0 hSw; go_simp); try (with_reducible rfl))
    try simp only [Act.put, List.setIfInBounds_toArray, List.set_cons_zero, List.set_cons_succ]
    refine wpAnyH_take (i := 15) (oi := ⟨some 32, Op.binOp BinOp.shr 22 (Operand.tmp 31) (Operand.const (Value.int IntKind.u64 14)) _, _, _, _, _⟩) (v := ?v14) rfl (by kernel_rfl) (by kernel_rfl) (by kernel_rfl) (fun _ _ _ h => h) (Or.inl ⟨by rfl, ?hy14⟩) (by assumption) ?rest14
    case hy14 => ((intro w0 hSw; go_simp); try (with_reducible rfl))
    try simp only [Act.put, List.setIfInBounds_toArray, List.set_cons_zero, List.set_cons_succ]
    refine wpAnyH_take (i := 17) (oi := ⟨some 34, Op.fieldAddr 41 (Operand.tmp 5) 3, _, _, _, _⟩) (v := ?v15) rfl (by kernel_rfl) (by kernel_rfl) (by kernel_rfl) (fun _ _ _ h => h) (Or.inl ⟨by rfl, ?hy15⟩) (by assumption) ?rest15
    case hy15 => ((intro w0 hSw; go_simp); try (with_reducible rfl))
    try simp only [Act.put, List.setIfInBounds_toArray, List.set_cons_zero, List.set_cons_succ]
    refine wpAnyH_take (i := 18) (oi := ⟨some 35, Op.load 39 (Operand.tmp 34), _, _, _, _⟩) (v := ?v16) rfl (by kernel_rfl) (by kernel_rfl) (by kernel_rfl) (fun _ _ _ h => h) (Or.inl ⟨by rfl, ?hy16⟩) (by assumption) ?rest16
    case hy16 => ((intro w0 hSw; obtain ⟨⟨c0, c1, c2, c3⟩, c4, c5, c6, c7⟩ := HX.out _ hSw; go_simp); try (with_reducible rfl))
    try simp only [Act.put, List.setIfInBounds_toArray, List.set_cons_zero, List.set_cons_succ]
    refine wpAnyH_take (i := 19) (oi := ⟨some 36, Op.move (Operand.tmp 0), _, _, _, _⟩) (v := ?v17) rfl (by kernel_rfl) (by kernel_rfl) (by kernel_rfl) (fun _ _ _ h => h) (Or.inl ⟨by rfl, ?hy17⟩) (by assumption) ?rest17
    case hy17 => ((intro w0 hSw; go_simp); try (with_reducible rfl))
    try simp only [Act.put, List.setIfInBounds_toArray, List.set_cons_zero, List.set_cons_succ]
    refine wpAnyH_ready (rs := [6, 22]) (by kernel_rfl) (by simp) (AllReadyH.cons (o := ⟨some 23, Op.call { callee := Callee.value (Operand.func 16), args := #[(Operand.tmp 20), (Operand.tmp 22)], argTypes := #[39, 22] }, _, _, _, _⟩) rfl (fun K hK => ?_) (AllReadyH.cons (o := ⟨some 6, Op.alloc 27, _, _, _, _⟩) rfl (fun K hK => ?_) AllReadyH.nil))
    · go_simp
      ((with_reducible refine (HRa.out _).mono ?_); rintro e X1 ⟨rfl, hgn⟩)
      have HG1 := Lib.hid (grown_trans HG0.out hgn)
      clear hgn
      go_wp2_with fail
      refine hK.out _ _ HG1.out (fun hHeld => ?_)
      clear hK K
      try simp only [Act.put, List.setIfInBounds_toArray, List.set_cons_zero, List.set_cons_succ]
      refine wpAnyH_ready (rs := [11, 22]) (by kernel_rfl) (by simp) (AllReadyH.cons (o := ⟨some 28, Op.call { callee := Callee.value (Operand.func 16), args := #[(Operand.tmp 25), (Operand.tmp 27)], argTypes := #[39, 22] }, _, _, _, _⟩) rfl (fun K hK => ?_) (AllReadyH.cons (o := ⟨some 6, Op.alloc 27, _, _, _, _⟩) rfl (fun K hK => ?_) AllReadyH.nil))
      · go_simp
        ((with_reducible refine (HRb.out _).mono ?_); rintro e X2 ⟨rfl, hgn⟩)
        have HG2 := Lib.hid (grown_trans HG1.out hgn)
        clear hgn
        go_wp2_with fail
        refine hK.out _ _ HG2.out (fun hHeld => ?_)
        clear hK K
        try simp only [Act.put, List.setIfInBounds_toArray, List.set_cons_zero, List.set_cons_succ]
        refine wpAnyH_ready (rs := [16, 22]) (by kernel_rfl) (by simp) (AllReadyH.cons (o := ⟨some 33, Op.call { callee := Callee.value (Operand.func 16), args := #[(Operand.tmp 30), (Operand.tmp 32)], argTypes := #[39, 22] }, _, _, _, _⟩) rfl (fun K hK => ?_) (AllReadyH.cons (o := ⟨some 6, Op.alloc 27, _, _, _, _⟩) rfl (fun K hK => ?_) AllReadyH.nil))
        · go_simp
          ((with_reducible refine (HRc.out _).mono ?_); rintro e X3 ⟨rfl, hgn⟩)
          have HG3 := Lib.hid (grown_trans HG2.out hgn)
          clear hgn
          go_wp2_with fail
          refine hK.out _ _ HG3.out (fun hHeld => ?_)
          clear hK K
          try simp only [Act.put, List.setIfInBounds_toArray, List.set_cons_zero, List.set_cons_succ]
          refine wpAnyH_ready (rs := [20, 22]) (by kernel_rfl) (by simp) (AllReadyH.cons (o := ⟨some 37, Op.call { callee := Callee.value (Operand.func 16), args := #[(Operand.tmp 35), (Operand.tmp 36)], argTypes := #[39, 22] }, _, _, _, _⟩) rfl (fun K hK => ?_) (AllReadyH.cons (o := ⟨some 6, Op.alloc 27, _, _, _, _⟩) rfl (fun K hK => ?_) AllReadyH.nil))
          · go_simp
            ((with_reducible refine (HRn.out _).mono ?_); rintro e X4 ⟨rfl, hgn⟩)
            have HG4 := Lib.hid (grown_trans HG3.out hgn)
            clear hgn
            go_wp2_with fail
            refine hK.out _ _ HG4.out (fun hHeld => ?_)
            clear hK K
            try simp only [Act.put, List.setIfInBounds_toArray, List.set_cons_zero, List.set_cons_succ]
            refine wpAnyH_take (i := 21) (oi := ⟨some 38, Op.build 27 #[(0, (Operand.tmp 18)), (1, (Operand.tmp 23)), (2, (Operand.tmp 28)), (3, (Operand.tmp 33)), (4, (Operand.tmp 37))], _, _, _, _⟩) (v := ?v18) rfl (by kernel_rfl) (by kernel_rfl) (by kernel_rfl) (fun _ _ _ h => h) (Or.inl ⟨by rfl, ?hy18⟩) (by assumption) ?rest18
            case hy18 => ((intro w0 hSw; go_simp); try (with_reducible rfl))
            try simp only [Act.put, List.setIfInBounds_toArray, List.set_cons_zero, List.set_cons_succ]
            refine wpAnyH_ready (rs := [22]) (by kernel_rfl) (by simp) (AllReadyH.cons (o := ⟨some 6, Op.alloc 27, _, _, _, _⟩) rfl (fun K hK => ?_) AllReadyH.nil)
            go_simp
            refine hK.out _ _ (grown_alloc HG4.out _) (fun hHeld => ?_)
            clear hK K
            try simp only [Act.put, List.setIfInBounds_toArray, List.set_cons_zero, List.set_cons_succ]
            have HB := Lib.hid (heap_alloc_new X4 (.cells #[.int .u8 0, .int .i64 0, .int .i64 0, .int .i64 0, .int .i64 0] 27))
            have HG5 := Lib.hid (grown_alloc HG4.out (.cells #[.int .u8 0, .int .i64 0, .int .i64 0, .int .i64 0, .int .i64 0] 27))
            have HGS := Lib.hid HG4.out.size
            obtain ⟨G, hG⟩ : ∃ G, X4.heap.size = G := ⟨_, rfl⟩
            rw [hG] at HB HGS ⊢
            clear hG
            obtain ⟨X5, hX⟩ : ∃ X, X4.alloc (.cells #[.int .u8 0, .int .i64 0, .int .i64 0, .int .i64 0, .int .i64 0] 27) = X := ⟨_, rfl⟩
            rw [hX] at HB HG5 hHeld ⊢
            clear hX
            obtain ⟨r0, r1, r2, r3, r4⟩ := cells5 HB.out
            have fz := frz HB.out
            refine wpAnyH_ready (rs := [23]) (by kernel_rfl) (by simp) ?_
            refine AllReadyH.cons (o := ⟨none, Op.store 27 (Operand.tmp 6) (Operand.tmp 38), _, _, _, _⟩) rfl (fun K hK => ?_) AllReadyH.nil
            go_simp
            refine hK.out _ _ (grown_set (grown_set (grown_set (grown_set (grown_set HG5.out _ _ HGS.out _) _ _ HGS.out _) _ _ HGS.out _) _ _ HGS.out _) _ _ HGS.out _) (fun hHeld => ?_)
            clear hK K
            try simp only [Act.put, List.setIfInBounds_toArray, List.set_cons_zero, List.set_cons_succ]
            refine wpAnyH_done (by kernel_rfl) ?_ _
            go_wp2_with fail
            go_meet
            exact ⟨_, rfl, hHeld, HGS.out, set5 HB.out _ _ _ _ _⟩
          · go_simp
            refine hK.out _ _ (grown_alloc HG3.out _) (fun hHeld => ?_)
            clear hK K
            try simp only [Act.put, List.setIfInBounds_toArray, List.set_cons_zero, List.set_cons_succ]
            have HB := Lib.hid (heap_alloc_new X3 (.cells #[.int .u8 0, .int .i64 0, .int .i64 0, .int .i64 0, .int .i64 0] 27))
            have HG6 := Lib.hid (grown_alloc HG3.out (.cells #[.int .u8 0, .int .i64 0, .int .i64 0, .int .i64 0, .int .i64 0] 27))
            have HGS := Lib.hid HG3.out.size
            obtain ⟨G, hG⟩ : ∃ G, X3.heap.size = G := ⟨_, rfl⟩
            rw [hG] at HB HGS ⊢
            clear hG
            obtain ⟨X6, hX⟩ : ∃ X, X3.alloc (.cells #[.int .u8 0, .int .i64 0, .int .i64 0, .int .i64 0, .int .i64 0] 27) = X := ⟨_, rfl⟩
            rw [hX] at HB HG6 hHeld ⊢
            clear hX
            refine wpAnyH_ready (rs := [20]) (by kernel_rfl) (by simp) (AllReadyH.cons (o := ⟨some 37, Op.call { callee := Callee.value (Operand.func 16), args := #[(Operand.tmp 35), (Operand.tmp 36)], argTypes := #[39, 22] }, _, _, _, _⟩) rfl (fun K hK => ?_) AllReadyH.nil)
            go_simp
            ((with_reducible refine (HRn.out _).mono ?_); rintro e X7 ⟨rfl, hgn⟩)
            have HG7 := Lib.hid (grown_trans HG6.out hgn)
            have HB := Lib.hid (row_grown HB.out hgn)
            clear hgn
            go_wp2_with fail
            refine hK.out _ _ HG7.out (fun hHeld => ?_)
            clear hK K
            try simp only [Act.put, List.setIfInBounds_toArray, List.set_cons_zero, List.set_cons_succ]
            refine wpAnyH_take (i := 21) (oi := ⟨some 38, Op.build 27 #[(0, (Operand.tmp 18)), (1, (Operand.tmp 23)), (2, (Operand.tmp 28)), (3, (Operand.tmp 33)), (4, (Operand.tmp 37))], _, _, _, _⟩) (v := ?v19) rfl (by kernel_rfl) (by kernel_rfl) (by kernel_rfl) (fun _ _ _ h => h) (Or.inl ⟨by rfl, ?hy19⟩) (by assumption) ?rest19
            case hy19 => ((intro w0 hSw; go_simp); try (with_reducible rfl))
            try simp only [Act.put, List.setIfInBounds_toArray, List.set_cons_zero, List.set_cons_succ]
            obtain ⟨r0, r1, r2, r3, r4⟩ := cells5 HB.out
            have fz := frz HB.out
            refine wpAnyH_ready (rs := [23]) (by kernel_rfl) (by simp) ?_
            refine AllReadyH.cons (o := ⟨none, Op.store 27 (Operand.tmp 6) (Operand.tmp 38), _, _, _, _⟩) rfl (fun K hK => ?_) AllReadyH.nil
            go_simp
            refine hK.out _ _ (grown_set (grown_set (grown_set (grown_set (grown_set HG7.out _ _ HGS.out _) _ _ HGS.out _) _ _ HGS.out _) _ _ HGS.out _) _ _ HGS.out _) (fun hHeld => ?_)
            clear hK K
            try simp only [Act.put, List.setIfInBounds_toArray, List.set_cons_zero, List.set_cons_succ]
            refine wpAnyH_done (by kernel_rfl) ?_ _
            go_wp2_with fail
            go_meet
            exact ⟨_, rfl, hHeld, HGS.out, set5 HB.out _ _ _ _ _⟩
        · go_simp
          refine hK.out _ _ (grown_alloc HG2.out _) (fun hHeld => ?_)
          clear hK K
          try simp only [Act.put, List.setIfInBounds_toArray, List.set_cons_zero, List.set_cons_succ]
          have HB := Lib.hid (heap_alloc_new X2 (.cells #[.int .u8 0, .int .i64 0, .int .i64 0, .int .i64 0, .int .i64 0] 27))
          have HG8 := Lib.hid (grown_alloc HG2.out (.cells #[.int .u8 0, .int .i64 0, .int .i64 0, .int .i64 0, .int .i64 0] 27))
          have HGS := Lib.hid HG2.out.size
          obtain ⟨G, hG⟩ : ∃ G, X2.heap.size = G := ⟨_, rfl⟩
          rw [hG] at HB HGS ⊢
          clear hG
          obtain ⟨X8, hX⟩ : ∃ X, X2.alloc (.cells #[.int .u8 0, .int .i64 0, .int .i64 0, .int .i64 0, .int .i64 0] 27) = X := ⟨_, rfl⟩
          rw [hX] at HB HG8 hHeld ⊢
          clear hX
          refine wpAnyH_ready (rs := [16]) (by kernel_rfl) (by simp) (AllReadyH.cons (o := ⟨some 33, Op.call { callee := Callee.value (Operand.func 16), args := #[(Operand.tmp 30), (Operand.tmp 32)], argTypes := #[39, 22] }, _, _, _, _⟩) rfl (fun K hK => ?_) AllReadyH.nil)
          go_simp
          ((with_reducible refine (HRc.out _).mono ?_); rintro e X9 ⟨rfl, hgn⟩)
          have HG9 := Lib.hid (grown_trans HG8.out hgn)
          have HB := Lib.hid (row_grown HB.out hgn)
          clear hgn
          go_wp2_with fail
          refine hK.out _ _ HG9.out (fun hHeld => ?_)
          clear hK K
          try simp only [Act.put, List.setIfInBounds_toArray, List.set_cons_zero, List.set_cons_succ]
          refine wpAnyH_ready (rs := [20]) (by kernel_rfl) (by simp) (AllReadyH.cons (o := ⟨some 37, Op.call { callee := Callee.value (Operand.func 16), args := #[(Operand.tmp 35), (Operand.tmp 36)], argTypes := #[39, 22] }, _, _, _, _⟩) rfl (fun K hK => ?_) AllReadyH.nil)
          go_simp
          ((with_reducible refine (HRn.out _).mono ?_); rintro e X10 ⟨rfl, hgn⟩)
          have HG10 := Lib.hid (grown_trans HG9.out hgn)
          have HB := Lib.hid (row_grown HB.out hgn)
          clear hgn
          go_wp2_with fail
          refine hK.out _ _ HG10.out (fun hHeld => ?_)
          clear hK K
          try simp only [Act.put, List.setIfInBounds_toArray, List.set_cons_zero, List.set_cons_succ]
          refine wpAnyH_take (i := 21) (oi := ⟨some 38, Op.build 27 #[(0, (Operand.tmp 18)), (1, (Operand.tmp 23)), (2, (Operand.tmp 28)), (3, (Operand.tmp 33)), (4, (Operand.tmp 37))], _, _, _, _⟩) (v := ?v20) rfl (by kernel_rfl) (by kernel_rfl) (by kernel_rfl) (fun _ _ _ h => h) (Or.inl ⟨by rfl, ?hy20⟩) (by assumption) ?rest20
          case hy20 => ((intro w0 hSw; go_simp); try (with_reducible rfl))
          try simp only [Act.put, List.setIfInBounds_toArray, List.set_cons_zero, List.set_cons_succ]
          obtain ⟨r0, r1, r2, r3, r4⟩ := cells5 HB.out
          have fz := frz HB.out
          refine wpAnyH_ready (rs := [23]) (by kernel_rfl) (by simp) ?_
          refine AllReadyH.cons (o := ⟨none, Op.store 27 (Operand.tmp 6) (Operand.tmp 38), _, _, _, _⟩) rfl (fun K hK => ?_) AllReadyH.nil
          go_simp
          refine hK.out _ _ (grown_set (grown_set (grown_set (grown_set (grown_set HG10.out _ _ HGS.out _) _ _ HGS.out _) _ _ HGS.out _) _ _ HGS.out _) _ _ HGS.out _) (fun hHeld => ?_)
          clear hK K
          try simp only [Act.put, List.setIfInBounds_toArray, List.set_cons_zero, List.set_cons_succ]
          refine wpAnyH_done (by kernel_rfl) ?_ _
          go_wp2_with fail
          go_meet
          exact ⟨_, rfl, hHeld, HGS.out, set5 HB.out _ _ _ _ _⟩
      · go_simp
        refine hK.out _ _ (grown_alloc HG1.out _) (fun hHeld => ?_)
        clear hK K
        try simp only [Act.put, List.setIfInBounds_toArray, List.set_cons_zero, List.set_cons_succ]
        have HB := Lib.hid (heap_alloc_new X1 (.cells #[.int .u8 0, .int .i64 0, .int .i64 0, .int .i64 0, .int .i64 0] 27))
        have HG11 := Lib.hid (grown_alloc HG1.out (.cells #[.int .u8 0, .int .i64 0, .int .i64 0, .int .i64 0, .int .i64 0] 27))
        have HGS := Lib.hid HG1.out.size
        obtain ⟨G, hG⟩ : ∃ G, X1.heap.size = G := ⟨_, rfl⟩
        rw [hG] at HB HGS ⊢
        clear hG
        obtain ⟨X11, hX⟩ : ∃ X, X1.alloc (.cells #[.int .u8 0, .int .i64 0, .int .i64 0, .int .i64 0, .int .i64 0] 27) = X := ⟨_, rfl⟩
        rw [hX] at HB HG11 hHeld ⊢
        clear hX
        refine wpAnyH_ready (rs := [11]) (by kernel_rfl) (by simp) (AllReadyH.cons (o := ⟨some 28, Op.call { callee := Callee.value (Operand.func 16), args := #[(Operand.tmp 25), (Operand.tmp 27)], argTypes := #[39, 22] }, _, _, _, _⟩) rfl (fun K hK => ?_) AllReadyH.nil)
        go_simp
        ((with_reducible refine (HRb.out _).mono ?_); rintro e X12 ⟨rfl, hgn⟩)
        have HG12 := Lib.hid (grown_trans HG11.out hgn)
        have HB := Lib.hid (row_grown HB.out hgn)
        clear hgn
        go_wp2_with fail
        refine hK.out _ _ HG12.out (fun hHeld => ?_)
        clear hK K
        try simp only [Act.put, List.setIfInBounds_toArray, List.set_cons_zero, List.set_cons_succ]
        refine wpAnyH_ready (rs := [16]) (by kernel_rfl) (by simp) (AllReadyH.cons (o := ⟨some 33, Op.call { callee := Callee.value (Operand.func 16), args := #[(Operand.tmp 30), (Operand.tmp 32)], argTypes := #[39, 22] }, _, _, _, _⟩) rfl (fun K hK => ?_) AllReadyH.nil)
        go_simp
        ((with_reducible refine (HRc.out _).mono ?_); rintro e X13 ⟨rfl, hgn⟩)
        have HG13 := Lib.hid (grown_trans HG12.out hgn)
        have HB := Lib.hid (row_grown HB.out hgn)
        clear hgn
        go_wp2_with fail
        refine hK.out _ _ HG13.out (fun hHeld => ?_)
        clear hK K
        try simp only [Act.put, List.setIfInBounds_toArray, List.set_cons_zero, List.set_cons_succ]
        refine wpAnyH_ready (rs := [20]) (by kernel_rfl) (by simp) (AllReadyH.cons (o := ⟨some 37, Op.call { callee := Callee.value (Operand.func 16), args := #[(Operand.tmp 35), (Operand.tmp 36)], argTypes := #[39, 22] }, _, _, _, _⟩) rfl (fun K hK => ?_) AllReadyH.nil)
        go_simp
        ((with_reducible refine (HRn.out _).mono ?_); rintro e X14 ⟨rfl, hgn⟩)
        have HG14 := Lib.hid (grown_trans HG13.out hgn)
        have HB := Lib.hid (row_grown HB.out hgn)
        clear hgn
        go_wp2_with fail
        refine hK.out _ _ HG14.out (fun hHeld => ?_)
        clear hK K
        try simp only [Act.put, List.setIfInBounds_toArray, List.set_cons_zero, List.set_cons_succ]
        refine wpAnyH_take (i := 21) (oi := ⟨some 38, Op.build 27 #[(0, (Operand.tmp 18)), (1, (Operand.tmp 23)), (2, (Operand.tmp 28)), (3, (Operand.tmp 33)), (4, (Operand.tmp 37))], _, _, _, _⟩) (v := ?v21) rfl (by kernel_rfl) (by kernel_rfl) (by kernel_rfl) (fun _ _ _ h => h) (Or.inl ⟨by rfl, ?hy21⟩) (by assumption) ?rest21
        case hy21 => ((intro w0 hSw; go_simp); try (with_reducible rfl))
        try simp only [Act.put, List.setIfInBounds_toArray, List.set_cons_zero, List.set_cons_succ]
        obtain ⟨r0, r1, r2, r3, r4⟩ := cells5 HB.out
        have fz := frz HB.out
        refine wpAnyH_ready (rs := [23]) (by kernel_rfl) (by simp) ?_
        refine AllReadyH.cons (o := ⟨none, Op.store 27 (Operand.tmp 6) (Operand.tmp 38), _, _, _, _⟩) rfl (fun K hK => ?_) AllReadyH.nil
        go_simp
        refine hK.out _ _ (grown_set (grown_set (grown_set (grown_set (grown_set HG14.out _ _ HGS.out _) _ _ HGS.out _) _ _ HGS.out _) _ _ HGS.out _) _ _ HGS.out _) (fun hHeld => ?_)
        clear hK K
        try simp only [Act.put, List.setIfInBounds_toArray, List.set_cons_zero, List.set_cons_succ]
        refine wpAnyH_done (by kernel_rfl) ?_ _
        go_wp2_with fail
        go_meet
        exact ⟨_, rfl, hHeld, HGS.out, set5 HB.out _ _ _ _ _⟩
    · go_simp
      refine hK.out _ _ (grown_alloc HG0.out _) (fun hHeld => ?_)
      clear hK K
      try simp only [Act.put, List.setIfInBounds_toArray, List.set_cons_zero, List.set_cons_succ]
      have HB := Lib.hid (heap_alloc_new X0 (.cells #[.int .u8 0, .int .i64 0, .int .i64 0, .int .i64 0, .int .i64 0] 27))
      have HG15 := Lib.hid (grown_alloc HG0.out (.cells #[.int .u8 0, .int .i64 0, .int .i64 0, .int .i64 0, .int .i64 0] 27))
      have HGS := Lib.hid HG0.out.size
      obtain ⟨G, hG⟩ : ∃ G, X0.heap.size = G := ⟨_, rfl⟩
      rw [hG] at HB HGS ⊢
      clear hG
      obtain ⟨X15, hX⟩ : ∃ X, X0.alloc (.cells #[.int .u8 0, .int .i64 0, .int .i64 0, .int .i64 0, .int .i64 0] 27) = X := ⟨_, rfl⟩
      rw [hX] at HB HG15 hHeld ⊢
      clear hX
      refine wpAnyH_ready (rs := [6]) (by kernel_rfl) (by simp) (AllReadyH.cons (o := ⟨some 23, Op.call { callee := Callee.value (Operand.func 16), args := #[(Operand.tmp 20), (Operand.tmp 22)], argTypes := #[39, 22] }, _, _, _, _⟩) rfl (fun K hK => ?_) AllReadyH.nil)
      go_simp
      ((with_reducible refine (HRa.out _).mono ?_); rintro e X16 ⟨rfl, hgn⟩)
      have HG16 := Lib.hid (grown_trans HG15.out hgn)
      have HB := Lib.hid (row_grown HB.out hgn)
      clear hgn
      go_wp2_with fail
      refine hK.out _ _ HG16.out (fun hHeld => ?_)
      clear hK K
      try simp only [Act.put, List.setIfInBounds_toArray, List.set_cons_zero, List.set_cons_succ]
      refine wpAnyH_ready (rs := [11]) (by kernel_rfl) (by simp) (AllReadyH.cons (o := ⟨some 28, Op.call { callee := Callee.value (Operand.func 16), args := #[(Operand.tmp 25), (Operand.tmp 27)], argTypes := #[39, 22] }, _, _, _, _⟩) rfl (fun K hK => ?_) AllReadyH.nil)
      go_simp
      ((with_reducible refine (HRb.out _).mono ?_); rintro e X17 ⟨rfl, hgn⟩)
      have HG17 := Lib.hid (grown_trans HG16.out hgn)
      have HB := Lib.hid (row_grown HB.out hgn)
      clear hgn
      go_wp2_with fail
      refine hK.out _ _ HG17.out (fun hHeld => ?_)
      clear hK K
      try simp only [Act.put, List.setIfInBounds_toArray, List.set_cons_zero, List.set_cons_succ]
      refine wpAnyH_ready (rs := [16]) (by kernel_rfl) (by simp) (AllReadyH.cons (o := ⟨some 33, Op.call { callee := Callee.value (Operand.func 16), args := #[(Operand.tmp 30), (Operand.tmp 32)], argTypes := #[39, 22] }, _, _, _, _⟩) rfl (fun K hK => ?_) AllReadyH.nil)
      go_simp
      ((with_reducible refine (HRc.out _).mono ?_); rintro e X18 ⟨rfl, hgn⟩)
      have HG18 := Lib.hid (grown_trans HG17.out hgn)
      have HB := Lib.hid (row_grown HB.out hgn)
      clear hgn
      go_wp2_with fail
      refine hK.out _ _ HG18.out (fun hHeld => ?_)
      clear hK K
      try simp only [Act.put, List.setIfInBounds_toArray, List.set_cons_zero, List.set_cons_succ]
      refine wpAnyH_ready (rs := [20]) (by kernel_rfl) (by simp) (AllReadyH.cons (o := ⟨some 37, Op.call { callee := Callee.value (Operand.func 16), args := #[(Operand.tmp 35), (Operand.tmp 36)], argTypes := #[39, 22] }, _, _, _, _⟩) rfl (fun K hK => ?_) AllReadyH.nil)
      go_simp
      ((with_reducible refine (HRn.out _).mono ?_); rintro e X19 ⟨rfl, hgn⟩)
      have HG19 := Lib.hid (grown_trans HG18.out hgn)
      have HB := Lib.hid (row_grown HB.out hgn)
      clear hgn
      go_wp2_with fail
      refine hK.out _ _ HG19.out (fun hHeld => ?_)
      clear hK K
      try simp only [Act.put, List.setIfInBounds_toArray, List.set_cons_zero, List.set_cons_succ]
      refine wpAnyH_take (i := 21) (oi := ⟨some 38, Op.build 27 #[(0, (Operand.tmp 18)), (1, (Operand.tmp 23)), (2, (Operand.tmp 28)), (3, (Operand.tmp 33)), (4, (Operand.tmp 37))], _, _, _, _⟩) (v := ?v22) rfl (by kernel_rfl) (by kernel_rfl) (by kernel_rfl) (fun _ _ _ h => h) (Or.inl ⟨by rfl, ?hy22⟩) (by assumption) ?rest22
      case hy22 => ((intro w0 hSw; go_simp); try (with_reducible rfl))
      try simp only [Act.put, List.setIfInBounds_toArray, List.set_cons_zero, List.set_cons_succ]
      obtain ⟨r0, r1, r2, r3, r4⟩ := cells5 HB.out
      have fz := frz HB.out
      refine wpAnyH_ready (rs := [23]) (by kernel_rfl) (by simp) ?_
      refine AllReadyH.cons (o := ⟨none, Op.store 27 (Operand.tmp 6) (Operand.tmp 38), _, _, _, _⟩) rfl (fun K hK => ?_) AllReadyH.nil
      go_simp
      refine hK.out _ _ (grown_set (grown_set (grown_set (grown_set (grown_set HG19.out _ _ HGS.out _) _ _ HGS.out _) _ _ HGS.out _) _ _ HGS.out _) _ _ HGS.out _) (fun hHeld => ?_)
      clear hK K
      try simp only [Act.put, List.setIfInBounds_toArray, List.set_cons_zero, List.set_cons_succ]
      refine wpAnyH_done (by kernel_rfl) ?_ _
      go_wp2_with fail
      go_meet
      exact ⟨_, rfl, hHeld, HGS.out, set5 HB.out _ _ _ _ _⟩
  case rest =>
    obtain ⟨G, rfl, hg5, hGS, hB5⟩ := hcut
    have HG5 : Hid (w.grownBy wc none) := Lib.hid (grown_trans HGw.out hg5)
    have HB5 := Lib.hid hB5
    have HA5 := Lib.hid (row_grown HA.out hg5)
    obtain ⟨c0, c1, c2, c3, c4⟩ := cells5 hB5
    clear hg5 hGS hB5 HX HRa HRb HRc HRn HR
    obtain ⟨w5, hw5⟩ : ∃ w5, w5 = wc := ⟨_, rfl⟩
    subst hw5
    cases z
    case true =>
      have hvx : v = (x : Int) := of_decide_eq_true HZ.out.symm
      clear hv HZ
      subst hvx
      go_wp2_with (first
        | (go_at_call 15; ((with_reducible refine (HW.out _ HG5.out).mono ?_); rintro e w6 ⟨rfl, hg6⟩; have HG6 := Lib.hid (grown_trans HG5.out hg6); have HA6 := Lib.hid (row_grown HA5.out hg6); obtain ⟨d0, d1, d2, d3, d4⟩ := cells5 (row_grown HB5.out hg6); obtain ⟨r0, r1, r2, r3, r4⟩ := cells5 HA6.out; have fz := frz HA6.out; clear hg6)))
      refine ret2c (c := ⟨op, A, B, C, N⟩) rfl (by rfl) rfl (set5 HA6.out _ _ _ _ _) ?_
      exact ⟨rfl, grown_set (grown_set (grown_set (grown_set (grown_set HG6.out _ _ (by omega) _) _ _ (by omega) _) _ _ (by omega) _) _ _ (by omega) _) _ _ (by omega) _⟩
    case false =>
      have hvx : ¬ v = (x : Int) := of_decide_eq_false HZ.out.symm
      have hne : (v == (x : Int)) = false := by simpa using hvx
      clear hv hvx HZ
      go_wp2_with (first
        | (go_at_call 15; ((with_reducible refine (HW.out _ HG5.out).mono ?_); rintro e w6 ⟨rfl, hg6⟩; have HG6 := Lib.hid (grown_trans HG5.out hg6); have HA6 := Lib.hid (row_grown HA5.out hg6); obtain ⟨d0, d1, d2, d3, d4⟩ := cells5 (row_grown HB5.out hg6); obtain ⟨r0, r1, r2, r3, r4⟩ := cells5 HA6.out; have fz := frz HA6.out; clear hg6)))
      refine ret2c (c := zc) rfl (by rfl) rfl (set5 HA6.out _ _ _ _ _) ?_
      exact ⟨rfl, grown_set (grown_set (grown_set (grown_set (grown_set HG6.out _ _ (by omega) _) _ _ (by omega) _) _ _ (by omega) _) _ _ (by omega) _) _ _ (by omega) _⟩
theorem take_any (x : Nat) (w : World) (hT : Tab w) (hx : x < 4294967296) : Calls Tryd.prog 9 #[.int .u32 (x : Int)] w fun e w' => e = .returned (.tuple #[.agg (ca (tk x)), .int .i64 (terr (tok x))]) ∧ w.grownBy w' none := by
  by_cases ho : x / 67108864 < 22
  · exact take_small x w hT hx ho
  · exact take_big x w hx ho
end Go.Proofs.YtncohgcklmogpaaDoor.cd
