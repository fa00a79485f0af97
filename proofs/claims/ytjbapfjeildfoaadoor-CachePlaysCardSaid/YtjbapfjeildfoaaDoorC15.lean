/-
  The law CacheRoom returns true: the walk. Condition: the table of bounds lies in its variable as the program's text has it; that the script has its calls.
-/
import Derived.Test.YtjbapfjeildfoaaDoorO
namespace Go.Proofs.YtjbapfjeildfoaaDoor.kk
open Go Go.ChangeShapes Go.WideShapes Go.ChangeAt Go.RowKit Go.Shelf
set_option linter.unusedVariables false

set_option maxHeartbeats 1000000 in
theorem room_long (c : Cfg) (os : List OpX) (ad : Option Addr) (len cap : Nat) (b : Int) (w : World) (hT : Tab w) (h : 300 < len) :
    Calls Tryd.prog 7 #[.agg c.cells, .slice ad len cap, .int .i64 b] w fun e w' => e = .returned (.bool true) ∧ w.grownBy w' none := by
  have hd : decide ((300 : Int) < (len : Int)) = true := by simp; omega
  have hg0 : w.grownBy (w.alloc (.cells c.cells 27)) none := grown_alloc (grown_refl _ _) _
  have HW := Lib.hid (works_any _ (hT.grown hg0))
  have HG0 := Lib.hid hg0
  clear hT h hg0
  unfold Cfg.cells at *
  go_enter Tryd.func7, Tryd.ntmps7
  go_wp2_with (go_at_call 10; ((refine HW.out.mono ?_); rintro e w3 ⟨rfl, hg3⟩; have HG3 := Lib.hid hg3; clear hg3))
  go_ret
  exact ⟨rfl, grown_trans HG0.out HG3.out⟩
set_option maxHeartbeats 1000000 in
theorem room_no (c : Cfg) (os : List OpX) (ad : Option Addr) (len cap : Nat) (b : Int) (w : World) (hT : Tab w) (h : len ≤ 300) (hm : ¬ c.may) :
    Calls Tryd.prog 7 #[.agg c.cells, .slice ad len cap, .int .i64 b] w fun e w' => e = .returned (.bool true) ∧ w.grownBy w' none := by
  have hd : decide ((300 : Int) < (len : Int)) = false := by simp; omega
  have hg0 : w.grownBy (w.alloc (.cells c.cells 27)) none := grown_alloc (grown_refl _ _) _
  have HN := Lib.hid (new_no c _ (hT.grown hg0) hm)
  have HW : Hid (∀ w', (w.alloc (.cells c.cells 27)).grownBy w' none → _) := Lib.hid (fun w' h => works_any w' (hT.grown (grown_trans hg0 h)))
  obtain ⟨c0, c1, c2, c3, c4, c5, c6, c7⟩ := cfg_at w c
  have HG0 := Lib.hid hg0
  clear hT h hm hg0
  unfold Cfg.cells at *
  go_enter Tryd.func7, Tryd.ntmps7
  go_wp2_with (first
    | (go_at_call 8; ((with_reducible refine HN.out.mono ?_); rintro e w2 ⟨rfl, hg2⟩; have HG2 := Lib.hid hg2; clear hg2))
    | (go_at_call 10; ((refine (HW.out _ HG2.out).mono ?_); rintro e w3 ⟨rfl, hg3⟩; have HG3 := Lib.hid hg3; clear hg3)))
  go_ret
  exact ⟨rfl, grown_trans HG0.out (grown_trans HG2.out HG3.out)⟩

theorem cfg_kept {w1 w2 : World} {B : Nat} {c : Cfg} {O : Nat → Prop} (h : CfgAt w1 B c) (hk : Kept O w1 w2) (hB : ¬ O B) : CfgAt w2 B c := by
  have hb : ∀ i v, w1.cell? ⟨B, i, none⟩ = some v → w2.cell? ⟨B, i, none⟩ = some v := fun i v hv => by
    rw [World.cell?_of_block (w := w1) (a := ⟨B, i, none⟩) (hk.block B (World.block_lt_of_cell? w1 ⟨B, i, none⟩ hv) hB)]; exact hv
  exact ⟨hb _ _ h.c0, hb _ _ h.c1, hb _ _ h.c2, hb _ _ h.c3, hb _ _ h.c4, hb _ _ h.c5, hb _ _ h.c6, hb _ _ h.c7⟩
theorem cell_kept {w1 w2 : World} {B i : Nat} {v : Value} {O : Nat → Prop} (h : w1.cell? ⟨B, i, none⟩ = some v) (hk : Kept O w1 w2) (hB : ¬ O B) : w2.cell? ⟨B, i, none⟩ = some v := by
  rw [World.cell?_of_block (w := w1) (a := ⟨B, i, none⟩) (hk.block B (World.block_lt_of_cell? w1 ⟨B, i, none⟩ h) hB)]; exact h
/-- The plan's variable and a line's block. -/
def Lim (w' : World) (A B : Nat) (c : Cfg) (b : Int) : Prop := w'.cell? ⟨B, 0, none⟩ = some (.int .i64 b) ∧ w'.cell? ⟨A, 0, none⟩ = some (.int .i64 c.co) ∧ w'.cell? ⟨A, 1, none⟩ = some (.int .i64 c.se) ∧ w'.cell? ⟨A, 2, none⟩ = some (.int .i64 c.wa) ∧ w'.cell? ⟨A, 3, none⟩ = some (.int .i64 c.bl) ∧ w'.cell? ⟨A, 4, none⟩ = some (.int .i64 c.lo) ∧ w'.cell? ⟨A, 5, none⟩ = some (.int .i64 c.ba) ∧ w'.cell? ⟨A, 6, none⟩ = some (.int .i64 c.ne) ∧ w'.cell? ⟨A, 7, none⟩ = some (.int .i64 c.tr)
theorem Lim.mk' {w' : World} {A B : Nat} {c : Cfg} {b : Int} (h : w'.cell? ⟨B, 0, none⟩ = some (.int .i64 b)) (hc : CfgAt w' A c) : Lim w' A B c b := ⟨h, hc.limbs⟩
theorem Lim.cfg {w' : World} {A B : Nat} {c : Cfg} {b : Int} (h : Lim w' A B c b) : CfgAt w' A c := by
  obtain ⟨_, h0, h1, h2, h3, h4, h5, h6, h7⟩ := h
  exact ⟨h0, h1, h2, h3, h4, h5, h6, h7⟩
theorem Lim.more {w1 w2 : World} {A B : Nat} {c : Cfg} {b : Int} (h : Lim w1 A B c b) (hg : w1.grownBy w2 none) : Lim w2 A B c b := .mk' (hg.cell h.1 (by simp)) (h.cfg.grown hg)
theorem Lim.kept {w1 w2 : World} {A B : Nat} {c : Cfg} {b : Int} {O : Nat → Prop} (h : Lim w1 A B c b) (hk : Kept O w1 w2) (hA : ¬ O A) (hB : ¬ O B) : Lim w2 A B c b := .mk' (cell_kept h.1 hk hB) (cfg_kept h.cfg hk hA)

set_option maxRecDepth 1000000 in
set_option maxHeartbeats 4000000 in
theorem room_some (c : Cfg) (os : List OpX) (ad : Option Addr) (len cap : Nat) (b : Int) (w : World) (hT : Tab w) (hlen : len = os.length) (hat : OpsAt w ad os) (h : len ≤ 300) (hm : c.may) :
    Calls Tryd.prog 7 #[.agg c.cells, .slice ad len cap, .int .i64 b] w fun e w' => e = .returned (.bool true) ∧ w.grownBy w' none := by
  have hd : decide ((300 : Int) < (len : Int)) = false := by simp; omega
  have hg0 : w.grownBy (w.alloc (.cells c.cells 27)) none := grown_alloc (grown_refl _ _) _
  have HN := Lib.hid (new_ok c _ (hT.grown hg0) hm)
  obtain ⟨c0, c1, c2, c3, c4, c5, c6, c7⟩ := cfg_at w c
  obtain ⟨w0, hw0⟩ : ∃ w0, w0 = w.alloc (.cells c.cells 27) := ⟨_, rfl⟩
  have hlt0 : w.heap.size < w0.heap.size := by rw [hw0]; simp
  have HCF : Hid (CfgAt w0 w.heap.size c) := Lib.hid (hw0 ▸ cfg_at w c)
  rw [← hw0] at hg0
  have HW : Hid (∀ w', w0.grownBy w' none → _) := Lib.hid (fun w' h => works_any w' (hT.grown (grown_trans hg0 h)))
  have HT := Lib.hid (fun w' (h : w0.grownBy w' none) => hT.grown (grown_trans hg0 h))
  have HM := Lib.hid hm
  have HG0 := Lib.hid hg0
  have HAT := Lib.hid (fun w' (h : w0.grownBy w' none) => hat.grown (grown_trans hg0 h))
  have HL := Lib.hid hlen
  have HW0 : Hid (w.alloc (.cells c.cells 27) = w0) := Lib.hid hw0.symm
  clear hT hm hg0 hat hlen hw0
  unfold Cfg.cells at HN HW0 c0 c1 c2 c3 c4 c5 c6 c7 ⊢
  go_enter Tryd.func7, Tryd.ntmps7
  go_wp2_with (first
    | (go_at_call 8; ((with_reducible refine HN.out.mono ?_); rintro e w2 ⟨K, rfl, hc2, hg2, hf2⟩; (rw [HW0.out] at hg2 hf2); have HR2 : Hid (Run w0 w2 K c (empty c)) := Lib.hid ⟨⟨hc2, hg2, hf2⟩, Inv.empty c⟩; clear hc2 hg2 hf2 c0 c1 c2 c3 c4 c5 c6 c7)))
  clear HN HW0
  go_loopw [27] (fun i wr => ∃ (j : Nat) (ss : List St), j ≤ len ∧ i = .int .i64 (j : Int) ∧ Run w0 wr K c ss) (fun i _ => len - (intOf i).toNat)
  case atStart => exact ⟨0, _, Nat.zero_le _, rfl, HR2.out⟩
  case round =>
    clear HR2
    obtain ⟨j, ss, hj, rfl, hr⟩ := hrel
    have HR := Lib.hid hr
    by_cases hlt : j < len
    · obtain ⟨q, hq⟩ : ∃ q, os[j]? = some q := ⟨_, List.getElem?_eq_getElem (by have := HL.out; omega)⟩
      obtain ⟨g, off, rfl, d0, d1, d2, d3, d4⟩ := (HAT.out _ hr.go.grown) j q hq
      have HB : Hid (wr.grownBy (wr.alloc (.cells #[.int .i64 q.kind, .int .i64 q.b, .int .i64 q.wd, .int .u8 q.s, .int .u32 q.x] 50)) none) := Lib.hid (grown_alloc (grown_refl _ _) _)
      have HRB := Lib.hid (hr.more HB.out)
      clear hr hq
      by_cases hk : q.kind = 0
      · have ek : (q.kind == 0) = true := by simp [hk]
        clear hk
        go_wp2_with (first
          | (go_at_call 12; ((with_reducible refine (line_any q.b q.s _).mono ?_); rintro e w3 ⟨rfl, hg3⟩; have HR3 := Lib.hid (HRB.out.more hg3); clear hg3))
          | (go_at_call 11; ((with_reducible refine (put_any K c ss _ HR3.out.go.cac (HT.out _ HR3.out.go.grown) (mk q.b q.s)).mono ?_); rintro e w4 ⟨rfl, hc4, hk4⟩; have HR4 := Lib.hid (HR3.out.next hc4 hk4 (HR3.out.inv.cput HR3.out.at _)); clear hc4 hk4)))
        go_roundw
        case rel => exact ⟨j + 1, _, by omega, by go_num, HR4.out⟩
        case measure => simp [intOf]; omega
      · have ek : (q.kind == 0) = false := by simp [hk]
        clear hk
        go_wp2_with (first
          | (go_at_call 13; ((with_reducible refine (uses_any K c ss _ HRB.out.go.cac (HT.out _ HRB.out.go.grown) q.b).mono ?_); rintro e w4 ⟨rfl, hc4, hk4⟩; have HR4 := Lib.hid (HRB.out.next hc4 hk4 (HRB.out.inv.cuse HRB.out.at _)); clear hc4 hk4)))
        go_roundw
        case rel => exact ⟨j + 1, _, by omega, by go_num, HR4.out⟩
        case measure => simp [intOf]; omega
    · obtain rfl : j = len := by omega
      have HGOES := Lib.hid (goes_any K c ss wr hr.go.cac (HT.out _ hr.go.grown) b)
      by_cases hb : 0 ≤ b ∧ b < 256
      · have d1 : decide (b < 0) = false := by simp; omega
        have d2 : decide (256 ≤ b) = false := by simp; omega
        have HPC := Lib.hid (put_code (c := c) (ss := ss) b hb)
        obtain ⟨lv, gb, hlv⟩ : ∃ lv gb, cgoes c ss b = (lv, gb) := ⟨_, _, rfl⟩
        rw [hlv] at HGOES HPC
        cases gb
        · have HP0 : Hid ((cput c ss (mk b 1)).2 = 0) := Lib.hid (by rw [HPC.out]; rfl)
          clear hb hlv hr
          go_wp2_with (first
            | (go_at_call 14; ((with_reducible refine HGOES.out.mono ?_); rintro e w3 ⟨rfl, hg3⟩; have HR3 := Lib.hid (HR.out.more hg3); have HR3b := Lib.hid (HR3.out.more (grown_alloc (grown_refl _ _) (.cells (la lv) 36))); clear hg3))
            | ((with_reducible refine store_new' lv 11 50 ?_ ?_ ?_); (rfl); (rfl))
            | (go_at_call 20; ((with_reducible refine (copy_any K c ss _ HR3b.out.go.cac).mono ?_); rintro e w4 ⟨K2, rfl, hc4, hg4, hf4⟩; have HR4 := Lib.hid (HR3b.out.more hg4); have HC4 := Lib.hid hc4; have HF4 := Lib.hid (fun k hk => Nat.le_trans HR3b.out.go.grown.size (hf4 k hk)); have HF4b := Lib.hid hf4; clear hc4 hg4 hf4))
            | (go_at_call 12; ((with_reducible refine (line_any b 1 w4).mono ?_); rintro e w5 ⟨rfl, hg5⟩; have HR5 := Lib.hid (HR4.out.more hg5); have HC5 := Lib.hid (HC4.out.grown hg5); clear hg5))
            | (go_at_call 11; ((with_reducible refine (put_any K2 c ss w5 HC5.out (HT.out _ HR5.out.go.grown) (mk b 1)).mono ?_); rintro e w6 ⟨he, hc6, hk6⟩; (rw [HP0.out] at he); subst he; have HR6 : Hid (Run w0 w6 K c ss) := Lib.hid ⟨⟨HR5.out.go.cac.same (fun k hk => hk6.block k (HR5.out.go.cac.lt hk) (fun ho => by have h1 := HF4b.out k (.inr ho); have h2 := HR3b.out.go.cac.lt hk; omega)), hk6.below HR5.out.go.grown (fun k hk => HF4.out k (.inr hk)), HR5.out.go.new⟩, HR5.out.inv⟩; clear hc6 hk6)))
          go_quiet (fail)
          have HR7 := Lib.hid (HR6.out.more (grown_drewN w6 nq none))
          go_wp2_with (first
            | (go_at_call 12; ((with_reducible refine (line_any b 1 _).mono ?_); rintro e w7 ⟨rfl, hg7⟩; have HR8 := Lib.hid (HR7.out.more hg7); clear hg7))
            | (go_at_call 11; ((with_reducible refine (put_any K c ss w7 HR8.out.go.cac (HT.out _ HR8.out.go.grown) (mk b 1)).mono ?_); rintro e w8 ⟨he, hc8, hk8⟩; (rw [HP0.out] at he); subst he; have HG8 : Hid (w0.grownBy w8 none) := Lib.hid (hk8.below HR8.out.go.grown (fun k hk => HR8.out.go.new k (.inr hk))); clear hc8 hk8))
            | (go_at_call 10; ((refine (HW.out _ HG8.out).mono ?_); rintro e w9 ⟨rfl, hg9⟩; have HG9 := Lib.hid (grown_trans HG8.out hg9); clear hg9)))
          go_ret
          exact ⟨rfl, grown_trans HG0.out HG9.out⟩
        · have HP7 : Hid ((cput c ss (mk b 1)).2 = 7) := Lib.hid (by rw [HPC.out]; rfl)
          have hgs := goes_set hr.inv hr.at b (hr.vc_lt b) (by rw [hlv])
          have hdr := drop_room hr.inv hr.at b (hr.vc_lt b) hb (by rw [hlv])
          rw [hlv] at hgs hdr
          have HSE := Lib.hid hgs.1
          have HD1 := Lib.hid hgs.2
          have HP0 := Lib.hid hdr
          have HSA : Hid (∀ w', w0.grownBy w' none → _) := Lib.hid (fun w' h => set_any c lv.b w' (HT.out _ h) HM.out)
          have HSB : Hid (∀ w', w0.grownBy w' none → _) := Lib.hid (fun w' h => set_any c b w' (HT.out _ h) HM.out)
          rw [HSE.out] at HSA
          unfold Cfg.cells at HSA HSB
          generalize setOf c b = sb at HSA HSB
          have hbn : ((sb : Int) != (sb : Int)) = false := by simp
          clear hb hlv hr hgs hdr
          go_wp2_with (first
            | (go_at_call 14; ((with_reducible refine HGOES.out.mono ?_); rintro e w3 ⟨rfl, hg3⟩; have HR3 := Lib.hid (HR.out.more hg3); have HR3b := Lib.hid (HR3.out.more (grown_alloc (grown_refl _ _) (.cells (la lv) 36))); clear hg3))
            | ((with_reducible refine store_new' lv 11 50 ?_ ?_ ?_); (rfl); (rfl))
            | (go_at_call 20; ((with_reducible refine (copy_any K c ss _ HR3b.out.go.cac).mono ?_); rintro e w4 ⟨K2, rfl, hc4, hg4, hf4⟩; have HR4 := Lib.hid (HR3b.out.more hg4); have HBX := Lib.hid (hg4.cell (box_ln w3 lv).1 (by simp)); have HC4 := Lib.hid hc4; have HF4 := Lib.hid (fun k hk => Nat.le_trans HR3b.out.go.grown.size (hf4 k hk)); have HF4b := Lib.hid hf4; clear hc4 hg4 hf4))
            | (go_at_call 12; ((with_reducible refine (line_any b 1 w4).mono ?_); rintro e w5 ⟨rfl, hg5⟩; have HR5 := Lib.hid (HR4.out.more hg5); have HC5 := Lib.hid (HC4.out.grown hg5); have HBX5 := Lib.hid (hg5.cell HBX.out (by simp)); clear hg5))
            | (go_at_call 11; ((with_reducible refine (put_any K2 c ss w5 HC5.out (HT.out _ HR5.out.go.grown) (mk b 1)).mono ?_); rintro e w6 ⟨he, hc6, hk6⟩; (rw [HP7.out] at he); subst he; have HR6 : Hid (Run w0 w6 K c ss) := Lib.hid ⟨⟨HR5.out.go.cac.same (fun k hk => hk6.block k (HR5.out.go.cac.lt hk) (fun ho => by have h1 := HF4b.out k (.inr ho); have h2 := HR3b.out.go.cac.lt hk; omega)), hk6.below HR5.out.go.grown (fun k hk => HF4.out k (.inr hk)), HR5.out.go.new⟩, HR5.out.inv⟩; have HBX6 := Lib.hid (cell_kept HBX5.out hk6 (fun ho => by have h1 := HF4b.out _ (.inr ho); simp at h1; omega)); clear hc6 hk6)))
          have HLM : Hid (Lim w6.drew w.heap.size w3.heap.size c lv.b) := Lib.hid (.mk' HBX6.out ((HCF.out.grown HR6.out.go.grown).grown (grown_drew (grown_refl _ _))))
          have HR7 : Hid (Run w0 w6.drew K c ss) := Lib.hid (HR6.out.more (grown_drew (grown_refl _ _)))
          have HOA : Hid (¬ K.own w.heap.size) := Lib.hid (fun ho => by have := HR6.out.go.new _ (.inr ho); omega)
          have HOB : Hid (¬ K.own w3.heap.size) := Lib.hid (fun ho => by have := HR3.out.go.cac.lt (.inr ho); omega)
          go_region_held3 (fun w' => w'.cell? ⟨w3.heap.size, 0, none⟩ = some (.int .i64 lv.b) ∧ w'.cell? ⟨w.heap.size, 0, none⟩ = some (.int .i64 c.co) ∧ w'.cell? ⟨w.heap.size, 1, none⟩ = some (.int .i64 c.se) ∧ w'.cell? ⟨w.heap.size, 2, none⟩ = some (.int .i64 c.wa) ∧ w'.cell? ⟨w.heap.size, 3, none⟩ = some (.int .i64 c.bl) ∧ w'.cell? ⟨w.heap.size, 4, none⟩ = some (.int .i64 c.lo) ∧ w'.cell? ⟨w.heap.size, 5, none⟩ = some (.int .i64 c.ba) ∧ w'.cell? ⟨w.heap.size, 6, none⟩ = some (.int .i64 c.ne) ∧ w'.cell? ⟨w.heap.size, 7, none⟩ = some (.int .i64 c.tr))
            (first | exact HLM.out | exact Lim.more (by assumption) (by assumption) | exact Lim.kept (by assumption) (by assumption) HOA.out HOB.out)
            (first
              | (go_at_call 27; ((with_reducible refine (HSA.out _ HR7.out.go.grown).mono ?_); rintro e w7 ⟨rfl, hg7⟩; have HR8 := Lib.hid (HR7.out.more hg7)))
              | (go_at_call 27; ((with_reducible refine (HSB.out _ HR8.out.go.grown).mono ?_); rintro e w8 ⟨rfl, hg8⟩; have HR9 := Lib.hid (HR8.out.more hg8)))
              | (go_at_call 15; ((with_reducible refine (drop_any K c ss _ HR9.out.go.cac (HT.out _ HR9.out.go.grown) lv.b).mono ?_); rintro e w9 ⟨he, hc9, hk9⟩; (rw [HD1.out] at he); subst he; have HR10 := Lib.hid (HR9.out.next hc9 hk9 (HR9.out.inv.cdrop HR9.out.at _)))))
          go_wp2_with (first
            | (go_at_call 12; ((with_reducible refine (line_any b 1 _).mono ?_); rintro e w10 ⟨rfl, hg10⟩; have HR11 := Lib.hid (HR10.out.more hg10); clear hg10))
            | (go_at_call 11; ((with_reducible refine (put_any K c _ w10 HR11.out.go.cac (HT.out _ HR11.out.go.grown) (mk b 1)).mono ?_); rintro e w11 ⟨he, hc11, hk11⟩; (rw [HP0.out] at he); subst he; have HG11 : Hid (w0.grownBy w11 none) := Lib.hid (hk11.below HR11.out.go.grown (fun k hk => HR11.out.go.new k (.inr hk))); clear hc11 hk11))
            | (go_at_call 10; ((refine (HW.out _ HG11.out).mono ?_); rintro e w12 ⟨rfl, hg12⟩; have HG12 := Lib.hid (grown_trans HG11.out hg12); clear hg12)))
          go_ret
          exact ⟨rfl, grown_trans HG0.out HG12.out⟩
      · have hgo := goes_out (c := c) (ss := ss) b hb
        have hpo := put_out (c := c) (ss := ss) b hb
        have HP2 : Hid ((cput c ss (mk b 1)).2 = 2) := Lib.hid (by rw [hpo])
        rw [hgo] at HGOES
        have hfin : ∀ (P : Prop), (decide (b < 0) = true → P) → (decide (b < 0) = false → decide (256 ≤ b) = true → P) → P := fun P h1 h2 => by
          by_cases h0 : b < 0
          · exact h1 (by simp; omega)
          · exact h2 (by simp; omega) (by simp; omega)
        clear hb hgo hpo hr
        refine hfin _ (fun d1 => ?_) (fun d1 d2 => ?_)
        all_goals
          clear hfin
          go_wp2_with (first
            | (go_at_call 14; ((with_reducible refine HGOES.out.mono ?_); rintro e w3 ⟨rfl, hg3⟩; have HR3 := Lib.hid (HR.out.more hg3); have HR3b := Lib.hid (HR3.out.more (grown_alloc (grown_refl _ _) (.cells (la zl) 36))); clear hg3))
            | ((with_reducible refine store_new' zl 11 50 ?_ ?_ ?_); (rfl); (rfl))
            | (go_at_call 12; ((with_reducible refine (line_any b 1 _).mono ?_); rintro e w5 ⟨rfl, hg5⟩; have HR5 := Lib.hid (HR3b.out.more hg5); clear hg5))
            | (go_at_call 11; ((with_reducible refine (put_any K c ss w5 HR5.out.go.cac (HT.out _ HR5.out.go.grown) (mk b 1)).mono ?_); rintro e w6 ⟨he, hc6, hk6⟩; (rw [HP2.out] at he); subst he; have HG6 : Hid (w0.grownBy w6 none) := Lib.hid (hk6.below HR5.out.go.grown (fun k hk => HR5.out.go.new k (.inr hk))); clear hc6 hk6))
            | (go_at_call 10; ((refine (HW.out _ HG6.out).mono ?_); rintro e w9 ⟨rfl, hg9⟩; have HG9 := Lib.hid (grown_trans HG6.out hg9); clear hg9)))
          go_ret
          exact ⟨rfl, grown_trans HG0.out HG9.out⟩
theorem room_true (c : Cfg) (os : List OpX) (b : Int) (ad : Option Addr) (len cap : Nat) (w : World) (hT : Tab w) (hlen : len = os.length) (hat : OpsAt w ad os) :
    Calls Tryd.prog 7 #[.agg c.cells, .slice ad len cap, .int .i64 b] w fun e w' => e = .returned (.bool true) ∧ w.grownBy w' none := by
  by_cases h : 300 < len
  · exact room_long c os ad len cap b w hT h
  · by_cases hm : c.may
    · exact room_some c os ad len cap b w hT hlen hat (by omega) hm
    · exact room_no c os ad len cap b w hT (by omega) hm
end Go.Proofs.YtjbapfjeildfoaaDoor.kk
