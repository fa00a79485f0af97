/-
  The document's log: what its Add answers, and what it writes. No condition but the bounds that each theorem names.
-/
import Derived.Test.YtfjjmlmkpdpdfaaDoorUdB
import Derived.Deep.RegionHeld3
namespace Go.Proofs.YtfjjmlmkpdpdfaaDoor.ud
open Go Go.RowKit
open Go.Proofs.YtfjjmlmkpdpdfaaDoor.tt (Cfg Tab trip CfgAt)
open Go.Proofs.YtfjjmlmkpdpdfaaDoor.pp (RMem Mem grown_refl grown_trans grown_alloc setW getW inn inb)
open Go.Proofs.YtfjjmlmkpdpdfaaDoor.sl (Sl flat)
set_option linter.unusedVariables false

/-- The error of an address, of a plan that may be. -/
def wErr (c : Cfg) (a : Int) : Int := if a % 4 ≠ 0 then 50 else if c.bl ≤ a / 64 then 5 else if c.data ≤ a / 64 then 51 else 0
theorem rwhere_err (c : Cfg) (a : Int) (w : World) (hm : c.may) (h0 : 0 ≤ a) (h1 : a < 4294967296) : Calls Tryd.prog 39 #[.agg c.cells, .int .u32 a] w fun e w' => ∃ x y, e = trip x y (wErr c a) ∧ (wErr c a = 0 → x = a / 64 ∧ y = a % 64 / 4) ∧ w.grownBy w' none := by
  unfold wErr
  by_cases h : a % 4 = 0
  · rw [if_neg (by omega)]
    by_cases h2 : c.bl ≤ a / 64
    · rw [if_pos h2]; exact (tt.rwhere_range c a w hm h0 h1 h h2).mono fun e w' k => ⟨0, 0, k.1, fun z => by omega, k.2⟩
    · rw [if_neg h2]
      by_cases h3 : c.data ≤ a / 64
      · rw [if_pos h3]; exact (tt.rwhere_log c a w hm h0 h1 h (by omega) h3).mono fun e w' k => ⟨0, 0, k.1, fun z => by omega, k.2⟩
      · rw [if_neg h3]; exact (tt.rwhere_in c a w hm h0 h1 h (by omega) (by omega)).mono fun e w' k => ⟨_, _, k.1, fun _ => ⟨rfl, rfl⟩, k.2⟩
  · rw [if_pos h]; exact (tt.rwhere_align c a w hm h0 h1 h).mono fun e w' k => ⟨0, 0, k.1, fun z => by omega, k.2⟩

/-- The words of an entry in memory. -/
def put1 (bs : List (List Int)) (i k : Nat) (y : Int) : List (List Int) := bs.set i ((bs.getD i []).set k y)
def putE (bs : List (List Int)) (f k : Nat) (x : Int × Int) : List (List Int) := put1 (put1 bs (f + k / 8) (k % 8 * 2) x.1) (f + k / 8) (k % 8 * 2 + 1) x.2
theorem put1_len (bs : List (List Int)) (i k : Nat) (y : Int) : (put1 bs i k y).length = bs.length := by simp [put1]

/-- w' is w but for the blocks that p tells, and new ones. -/
structure Fr (w w' : World) (p : Nat → Prop) : Prop where
  os : w'.os = w.os
  tape : w'.tape = w.tape
  output : w'.output = w.output
  size : w.heap.size ≤ w'.heap.size
  block : ∀ k, k < w.heap.size → ¬ p k → w'.heap[k]? = w.heap[k]?
theorem Fr.refl (w : World) (p : Nat → Prop) : Fr w w p := ⟨rfl, rfl, rfl, Nat.le_refl _, fun _ _ _ => rfl⟩
theorem Fr.trans {a b d : World} {p : Nat → Prop} (h : Fr a b p) (k : Fr b d p) : Fr a d p := ⟨k.os.trans h.os, k.tape.trans h.tape, k.output.trans h.output, Nat.le_trans h.size k.size, fun i hi hn => (k.block i (Nat.lt_of_lt_of_le hi h.size) hn).trans (h.block i hi hn)⟩
theorem Fr.of_grown {w w' : World} {own : Option Nat} {p : Nat → Prop} (h : w.grownBy w' own) (hp : ∀ k, own = some k → p k) : Fr w w' p := ⟨h.os, h.tape, h.output, h.size, fun k hk hn => h.block k hk (fun e => hn (hp k e.symm))⟩

theorem grown_new {w1 w2 w3 : World} (h : w1.grownBy w2 none) {g : Nat} (hg : w1.heap.size ≤ g) (k : w2.grownBy w3 (some g)) : w1.grownBy w3 none :=
  ⟨k.os.trans h.os, k.tape.trans h.tape, k.output.trans h.output, Nat.le_trans h.size k.size, fun i hi hn => (k.block i (Nat.lt_of_lt_of_le hi h.size) (by intro e; injection e with e; omega)).trans (h.block i hi hn)⟩
theorem grown_new' {w1 w2 w3 : World} (h : w1.grownBy w2 none) {o : Option Nat} (hg : ∀ k, o = some k → w1.heap.size ≤ k) (k : w2.grownBy w3 o) : w1.grownBy w3 none :=
  ⟨k.os.trans h.os, k.tape.trans h.tape, k.output.trans h.output, Nat.le_trans h.size k.size, fun i hi hn => (k.block i (Nat.lt_of_lt_of_le hi h.size) (by intro e; have := hg i e.symm; omega)).trans (h.block i hi hn)⟩
theorem new_own {w1 w2 w3 : World} (h : w1.grownBy w2 none) {v v' : Value} (hn : sl.Next w2 w3 v v') (hv : ∀ k, v.ownBlock = some k → w1.heap.size ≤ k) : ∀ k, v'.ownBlock = some k → w1.heap.size ≤ k := fun k hk => by
  rcases hn with hn | hn
  · exact hv k (by rw [← hn]; exact hk)
  · exact Nat.le_trans h.size (hn k hk)
theorem infoE' : (Tryd.prog.info? 71).map (fun i => (i.zero, i.size, i.bytes)) = some (some (.agg #[.int .u32 0, .int .u32 0]), 2, 8) := by kernel_rfl
theorem infoE : ∃ i, Tryd.prog.info? 71 = some i ∧ i.zero = some (.agg #[.int .u32 0, .int .u32 0]) ∧ i.size = 2 ∧ i.bytes = 8 := by
  have h := infoE'
  cases hi : Tryd.prog.info? 71 with
  | none => rw [hi] at h; cases h
  | some i => rw [hi] at h; simp at h; exact ⟨i, rfl, h⟩

section
variable {w w' : World} {b : Nat} {v : Value} {c : Cfg} {core : Int} {es : List (Int × Int)} {mb : Nat} {mv : Value} {bs : List (List Int)}
theorem RLog.nine (h : RLog w b v c core es) : w.cell? ⟨b, 0, none⟩ = some (.int .i64 c.co) ∧ w.cell? ⟨b, 1, none⟩ = some (.int .i64 c.se) ∧ w.cell? ⟨b, 2, none⟩ = some (.int .i64 c.wa) ∧ w.cell? ⟨b, 3, none⟩ = some (.int .i64 c.bl) ∧ w.cell? ⟨b, 4, none⟩ = some (.int .i64 c.lo) ∧ w.cell? ⟨b, 5, none⟩ = some (.int .i64 c.ba) ∧ w.cell? ⟨b, 6, none⟩ = some (.int .i64 c.ne) ∧ w.cell? ⟨b, 7, none⟩ = some (.int .i64 c.tr) ∧ w.cell? ⟨b, 8, none⟩ = some (.int .i64 core) := by
  simp [World.cell?, h.blk]
theorem nine_next {w w' : World} {b : Nat} {c : Cfg} {core : Int} (h : w.cell? ⟨b, 0, none⟩ = some (.int .i64 c.co) ∧ w.cell? ⟨b, 1, none⟩ = some (.int .i64 c.se) ∧ w.cell? ⟨b, 2, none⟩ = some (.int .i64 c.wa) ∧ w.cell? ⟨b, 3, none⟩ = some (.int .i64 c.bl) ∧ w.cell? ⟨b, 4, none⟩ = some (.int .i64 c.lo) ∧ w.cell? ⟨b, 5, none⟩ = some (.int .i64 c.ba) ∧ w.cell? ⟨b, 6, none⟩ = some (.int .i64 c.ne) ∧ w.cell? ⟨b, 7, none⟩ = some (.int .i64 c.tr) ∧ w.cell? ⟨b, 8, none⟩ = some (.int .i64 core)) (hg : w.grownBy w' none) :
    w'.cell? ⟨b, 0, none⟩ = some (.int .i64 c.co) ∧ w'.cell? ⟨b, 1, none⟩ = some (.int .i64 c.se) ∧ w'.cell? ⟨b, 2, none⟩ = some (.int .i64 c.wa) ∧ w'.cell? ⟨b, 3, none⟩ = some (.int .i64 c.bl) ∧ w'.cell? ⟨b, 4, none⟩ = some (.int .i64 c.lo) ∧ w'.cell? ⟨b, 5, none⟩ = some (.int .i64 c.ba) ∧ w'.cell? ⟨b, 6, none⟩ = some (.int .i64 c.ne) ∧ w'.cell? ⟨b, 7, none⟩ = some (.int .i64 c.tr) ∧ w'.cell? ⟨b, 8, none⟩ = some (.int .i64 core) := by
  obtain ⟨h0, h1, h2, h3, h4, h5, h6, h7, h8⟩ := h
  exact ⟨hg.cell h0 (by simp), hg.cell h1 (by simp), hg.cell h2 (by simp), hg.cell h3 (by simp), hg.cell h4 (by simp), hg.cell h5 (by simp), hg.cell h6 (by simp), hg.cell h7 (by simp), hg.cell h8 (by simp)⟩

/-- What changes a memory's words alone leaves the log alone. -/
theorem RLog.beside {g : Nat} {cur : Array Value} {fr : Nat × Nat} (h : RLog w b v c core es) (hg : w.grownBy w' (some g)) (ht : w.heap[g]? = some (.cells cur 34 fr)) : RLog w' b v c core es := by
  refine ⟨(hg.block b h.lt (by intro e; injection e with e; exact pp.tyne h.blk ht (by decide) e)).trans h.blk, h.sl.of_block fun k hk => hg.block k (h.sl.lt k hk) (by intro e; injection e with e; obtain ⟨cr, hc⟩ := h.sl.type k hk; exact pp.tyne hc ht (by decide) e)⟩
theorem put1_RMem {g off cap : Nat} (hM : RMem w mb (.slice (some ⟨g, off, none⟩) (16 * bs.length) cap) bs) {i k : Nat} (hi : i < bs.length) (hk : k < 16) (y : Int) : RMem (w.setCell ⟨g, off + (16 * i + k), none⟩ (.int .u32 y)) mb (.slice (some ⟨g, off, none⟩) (16 * bs.length) cap) (put1 bs i k y) ∧ w.grownBy (w.setCell ⟨g, off + (16 * i + k), none⟩ (.int .u32 y)) (some g) := by
  have hx : bs[i]? = some (bs.getD i []) := by rw [List.getD_eq_getElem?_getD, List.getElem?_eq_getElem hi]; rfl
  exact hM.put y hx hk
theorem mem_word {g off cap n : Nat} (hM : RMem w mb (.slice (some ⟨g, off, none⟩) n cap) bs) {i k : Nat} (hi : i < bs.length) (hk : k < 16) : (∃ y, w.cell? ⟨g, off + (16 * i + k), none⟩ = some (.int .u32 y)) ∧ w.frozen? ⟨g, off + (16 * i + k), none⟩ = false := by
  have hx : bs[i]? = some (bs.getD i []) := by rw [List.getD_eq_getElem?_getD, List.getElem?_eq_getElem hi]; rfl
  have hl := hM.len _ (List.mem_of_getElem? hx)
  obtain ⟨g', off', cap', e, h1, h2⟩ := hM.at hx (List.getElem?_eq_getElem (by rw [hl]; exact hk))
  cases e
  exact ⟨⟨_, h1⟩, h2⟩

theorem radd_err (h : RLog w b v c core es) (hm : c.may) (mp : Value) (a o : Int) (h0 : 0 ≤ a) (h1 : a < 4294967296) (he : wErr c a ≠ 0) : Calls Tryd.prog 21 #[.pointer (some ⟨b, 0, none⟩), mp, .int .u32 a, .int .u32 o] w fun e w' => e = .returned (.int .i64 (wErr c a)) ∧ w.grownBy w' none := by
  have HL := Lib.hid (rwhere_err c a w hm h0 h1)
  obtain ⟨d0, d1, d2, d3, d4, d5, d6, d7, d8⟩ := h.nine
  generalize wErr c a = z at HL he
  have hz : (z != 0) = true := by simp [he]
  clear h hm he
  unfold Cfg.cells at *
  unfold trip at HL
  go_enter Tryd.func21, Tryd.ntmps21
  go_wp2_with (first
    | (go_at_call 39; ((with_reducible refine HL.out.mono ?_); rintro e w1 ⟨x, y, rfl, hxy, hg1⟩; have HG1 := Lib.hid hg1; clear hg1 hxy)))
  go_ret
  exact ⟨rfl, HG1.out⟩
theorem radd_full (h : RLog w b v c core es) (hm : c.may) (mp : Value) (a o : Int) (h0 : 0 ≤ a) (h1 : a < 4294967296) (he : wErr c a = 0) (hl : (es.length : Int) = 8 * c.lo) : Calls Tryd.prog 21 #[.pointer (some ⟨b, 0, none⟩), mp, .int .u32 a, .int .u32 o] w fun e w' => e = .returned (.int .i64 7) ∧ w.grownBy w' none := by
  have HL := Lib.hid (rwhere_err c a w hm h0 h1)
  obtain ⟨d0, d1, d2, d3, d4, d5, d6, d7, d8⟩ := h.nine
  have hlo := hm.fits.lo
  have HR : Hid (∀ w1, w.grownBy w1 none → _) := Lib.hid fun w1 hg => rroom_any (h.grown hg) (by omega) hlo.2 (by omega)
  rw [he, show 8 * c.lo - (es.length : Int) = 0 by omega] at *
  clear h hm he hl hlo
  unfold Cfg.cells at *
  unfold trip at HL
  go_enter Tryd.func21, Tryd.ntmps21
  go_wp2_with (first
    | (go_at_call 39; ((with_reducible refine HL.out.mono ?_); rintro e w1 ⟨x, y, rfl, hxy, hg1⟩; have HG1 := Lib.hid hg1; clear hg1 hxy))
    | (go_at_call 25; ((with_reducible refine (HR.out _ HG1.out).mono ?_); rintro e w2 ⟨rfl, q, rfl⟩)))
  go_ret
  exact ⟨rfl, grown_trans HG1.out (grown_drewN _ _)⟩
set_option maxHeartbeats 1600000 in
set_option maxRecDepth 100000 in
theorem radd_ok (h : RLog w b v c core es) (hM : RMem w mb mv bs) (hm : c.may) (a o : Int) (h0 : 0 ≤ a) (h1 : a < 4294967296) (he : wErr c a = 0) (hl : (es.length : Int) < 8 * c.lo) (hc0 : 0 ≤ core) (hc1 : core < c.co) (hbs : (bs.length : Int) = c.bl) (F : Nat) (hF : c.data + core * c.lo = F) :
    Calls Tryd.prog 21 #[.pointer (some ⟨b, 0, none⟩), .pointer (some ⟨mb, 0, none⟩), .int .u32 a, .int .u32 o] w fun e w' => e = .returned (.int .i64 0) ∧ ∃ v', RLog w' b v' c core (es ++ [(a, o)]) ∧ RMem w' mb mv (putE bs F es.length (a, o)) ∧ Fr w w' (fun k => k = b ∨ mv.ownBlock = some k) ∧ ∀ k, v'.ownBlock = some k → w.heap.size ≤ k := by
  have HL := Lib.hid (rwhere_err c a w hm h0 h1)
  obtain ⟨d0, d1, d2, d3, d4, d5, d6, d7, d8⟩ := h.nine
  have hlo := hm.fits.lo
  have hcm := tt.core_mul hm.fits core hc0 hc1
  have hFl : F + c.lo ≤ c.bl := by rw [← hF]; unfold Cfg.data; omega
  have HR : Hid (∀ w1, w.grownBy w1 none → _) := Lib.hid fun w1 hg => rroom_any (h.grown hg) (by omega) hlo.2 (by omega)
  have HG : Hid (∀ w1, _) := Lib.hid fun w1 => tt.rlog_in c core w1 hm hc0 hc1
  have HLG := Lib.hid h
  have HMM := Lib.hid hM
  rw [he] at HL
  rw [hF] at HG
  have hz : ((8 * c.lo - (es.length : Int)) == 0) = false := beq_eq_false_iff_ne.2 (by omega)
  clear h hm he hM hcm hF
  unfold Cfg.cells at *
  unfold trip at HL HG
  go_enter Tryd.func21, Tryd.ntmps21
  go_upto_region 6 with (first
    | (go_at_call 39; ((with_reducible refine HL.out.mono ?_); rintro e w1 ⟨x, y, rfl, hxy, hg1⟩; have HG1 := Lib.hid hg1; clear hg1 hxy))
    | (go_at_call 25; ((with_reducible refine (HR.out _ HG1.out).mono ?_); rintro e w2 ⟨rfl, q, rfl⟩)))
  have HG2 := Lib.hid (grown_trans HG1.out (grown_drewN w1 q))
  clear HG1 HR HL d0 d1 d2 d3 d4 d5 d6 d7 d8
  generalize w1.drewN q = w2 at HG2 ⊢
  have H9 := Lib.hid (HLG.out.grown HG2.out).nine
  go_region_held3 (fun w' => w'.cell? ⟨b, 0, none⟩ = some (.int .i64 c.co) ∧ w'.cell? ⟨b, 1, none⟩ = some (.int .i64 c.se) ∧ w'.cell? ⟨b, 2, none⟩ = some (.int .i64 c.wa) ∧ w'.cell? ⟨b, 3, none⟩ = some (.int .i64 c.bl) ∧ w'.cell? ⟨b, 4, none⟩ = some (.int .i64 c.lo) ∧ w'.cell? ⟨b, 5, none⟩ = some (.int .i64 c.ba) ∧ w'.cell? ⟨b, 6, none⟩ = some (.int .i64 c.ne) ∧ w'.cell? ⟨b, 7, none⟩ = some (.int .i64 c.tr) ∧ w'.cell? ⟨b, 8, none⟩ = some (.int .i64 core))
    (first | exact H9.out | exact nine_next H9.out (by assumption) | exact nine_next (by assumption) (by assumption))
    (first | (go_at_call 38; ((with_reducible refine (HG.out _).mono ?_); rintro e w3 ⟨rfl, hg3⟩)))
  have HG3 := Lib.hid (grown_trans HG2.out (grown_trans (show w2.grownBy w2.drew none from ⟨rfl, rfl, rfl, Nat.le_refl _, fun _ _ _ => rfl⟩) hg3))
  have L3 := HLG.out.grown HG3.out
  have M3 := HMM.out.kept HG3.out
  clear H9 hg3 HG2 HG
  rename_i hheld
  clear hheld
  have hFb : F + es.length / 8 < bs.length := by omega
  have hk2 : es.length % 8 * 2 + 1 < 16 := by omega
  have hP : 16 * (F + es.length / 8) + es.length % 8 * 2 = 16 * F + 2 * es.length := by omega
  have hP1 : 16 * (F + es.length / 8) + (es.length % 8 * 2 + 1) = 16 * F + 2 * es.length + 1 := by omega
  obtain ⟨ad, cap, hv⟩ := L3.form
  obtain ⟨g, off, mcap, hmv⟩ : ∃ g off mcap, mv = .slice (some ⟨g, off, none⟩) (16 * bs.length) mcap := by
    have hx : bs[F + es.length / 8]? = some (bs.getD (F + es.length / 8) []) := by rw [List.getD_eq_getElem?_getD, List.getElem?_eq_getElem hFb]; rfl
    have hl := M3.len _ (List.mem_of_getElem? hx)
    obtain ⟨g', off', cap', e, _⟩ := M3.at hx (List.getElem?_eq_getElem (i := 0) (by rw [hl]; omega))
    exact ⟨g', off', cap', e⟩
  subst hv hmv
  obtain ⟨cur, hcur⟩ : ∃ cur, w3.heap[g]? = some (.cells cur 34 (0, 0)) := M3.bl g rfl
  obtain ⟨⟨y1, e1⟩, f1⟩ := mem_word M3 hFb (show es.length % 8 * 2 < 16 by omega)
  obtain ⟨M4, hg4⟩ := put1_RMem M3 hFb (show es.length % 8 * 2 < 16 by omega) a
  rw [hP] at e1 f1 M4 hg4
  have hm0 := M3.cell0
  have hl9 := L3.cells.2.2
  have L4 := L3.beside hg4 hcur
  have hbound : 16 * F + 2 * es.length + 1 < 16 * bs.length := by omega
  have hn2 : es.length ≤ 32 := by omega
  have hF2 : F ≤ 256 := by have := M3.few; omega
  have hg4d : w3.grownBy (w3.setCell ⟨g, off + (16 * F + 2 * es.length), none⟩ (.int .u32 a)).drew (some g) := ⟨hg4.os, hg4.tape, hg4.output, hg4.size, hg4.block⟩
  have M4d : RMem (w3.setCell ⟨g, off + (16 * F + 2 * es.length), none⟩ (.int .u32 a)).drew mb (.slice (some ⟨g, off, none⟩) (16 * bs.length) mcap) (put1 bs (F + es.length / 8) (es.length % 8 * 2) a) := ⟨M4.blk, M4.sl, M4.len, M4.few⟩
  have L4d : RLog (w3.setCell ⟨g, off + (16 * F + 2 * es.length), none⟩ (.int .u32 a)).drew b (.slice ad es.length cap) c core es := ⟨L4.blk, L4.sl⟩
  have HM4 := Lib.hid M4d
  have HL4 := Lib.hid L4d
  have HG4 := Lib.hid hg4d
  clear M3 L3 M4 L4 hg4 hcur hg4d M4d L4d
  go_upto_region 7 with fail
  go_region
  generalize (w3.setCell ⟨g, off + (16 * F + 2 * es.length), none⟩ (.int .u32 a)).drew = w4 at HM4 HL4 HG4 ⊢
  have HF4 : Hid (Fr w w4 (fun k => k = b ∨ some g = some k)) := Lib.hid ((Fr.of_grown HG3.out (fun k e => by cases e)).trans (Fr.of_grown HG4.out (fun k e => .inr e)))
  clear e1 f1 hm0 hl9 HG3 HG4
  have M4 := HM4.out
  have L4 := HL4.out
  rw [← put1_len bs (F + es.length / 8) (es.length % 8 * 2) a] at M4 hFb
  obtain ⟨⟨y1, e1⟩, f1⟩ := mem_word M4 hFb hk2
  obtain ⟨M5, hg5⟩ := put1_RMem M4 hFb hk2 o
  rw [hP1] at e1 f1 M5 hg5
  rw [put1_len] at M4 M5 hFb
  have hm0 := M4.cell0
  have hl9 := L4.cells.2.2
  obtain ⟨cur, hcur⟩ : ∃ cur, w4.heap[g]? = some (.cells cur 34 (0, 0)) := M4.bl g rfl
  have L5 := L4.beside hg5 hcur
  have hg5d : w4.grownBy (w4.setCell ⟨g, off + (16 * F + 2 * es.length + 1), none⟩ (.int .u32 o)).drew (some g) := ⟨hg5.os, hg5.tape, hg5.output, hg5.size, hg5.block⟩
  have M5d : RMem (w4.setCell ⟨g, off + (16 * F + 2 * es.length + 1), none⟩ (.int .u32 o)).drew mb (.slice (some ⟨g, off, none⟩) (16 * bs.length) mcap) (putE bs F es.length (a, o)) := ⟨M5.blk, M5.sl, M5.len, M5.few⟩
  have L5d : RLog (w4.setCell ⟨g, off + (16 * F + 2 * es.length + 1), none⟩ (.int .u32 o)).drew b (.slice ad es.length cap) c core es := ⟨L5.blk, L5.sl⟩
  have HM5 := Lib.hid M5d
  have HL5 := Lib.hid L5d
  have HG5 := Lib.hid hg5d
  clear M4 L4 M5 L5 hg5 hcur hg5d M5d L5d HM4 HL4
  go_upto_region 8 with fail
  go_region
  generalize (w4.setCell ⟨g, off + (16 * F + 2 * es.length + 1), none⟩ (.int .u32 o)).drew = w5 at HM5 HL5 HG5 ⊢
  have HF5 := Lib.hid (HF4.out.trans (Fr.of_grown HG5.out (fun k e => .inr e)))
  clear e1 f1 hm0 hl9 HF4 HG5
  have hl9 := HL5.out.cells.2.2
  have f9 : ∀ wx, w5.grownBy wx none → wx.cell? ⟨b, 9, none⟩ = some (.slice ad es.length cap) ∧ wx.frozen? ⟨b, 9, none⟩ = false := fun wx hg => ⟨hg.cell hl9 (by simp), by simp [World.frozen?, (hg.block b HL5.out.lt (by simp)).trans HL5.out.blk]⟩
  obtain ⟨i0, hi, hz0, hz1, hz2⟩ := infoE
  have hg6 : w5.grownBy (w5.alloc (.cells #[] 71)) none := grown_alloc (grown_refl _ _) _
  have HS0 : Hid (Sl (w5.alloc (.cells #[] 71)) 71 2 (.slice (some ⟨w5.heap.size, 0, none⟩) 0 0) 0 []) := Lib.hid (.inr ⟨w5.heap.size, 0, 0, #[], rfl, by show (w5.heap.push _)[w5.heap.size]? = _; exact Array.getElem?_push_size, rfl, Nat.le_refl _, Nat.zero_le _, by simp, fun k x hk => by simp at hk⟩)
  have HSRC := Lib.hid ((HL5.out.sl.grown hg6).src (P := Tryd.prog) Tryd.underlying51 (sl.flat_one et_one es))
  have HG6 := Lib.hid hg6
  clear hg6
  have hl9a := (f9 _ HG6.out).1
  have HON : Hid (∀ u ∈ [Value.int .u32 a, Value.int .u32 o], u.oneCell' = true) := Lib.hid (et_one (a, o))
  go_wp2_with (first
    | ((with_reducible refine sl.append_sl 51 71 2 i0 (.agg #[.int .u32 0, .int .u32 0]) 8 (.tmp 76) (.tmp 80) Tryd.underlying51 hi hz0 hz1 hz2 rfl _ 0 [] ?_ HS0.out _ es.length (flat et es) ?_ HSRC.out ?_ ?_ ?_); (rfl); (rfl); (unfold maxLen; omega); (omega); intro v1 w7 hsl1 hgr1 hnx1; rw [Nat.zero_add, List.nil_append] at hsl1; obtain ⟨ad1, cap1, rfl⟩ := hsl1.form; have HV1 := Lib.hid hsl1; have HG7 := Lib.hid (grown_new HG6.out (Nat.le_refl _) hgr1); have HN1 : Hid (∀ k, (Value.slice ad1 es.length cap1).ownBlock = some k → w5.heap.size ≤ k) := Lib.hid (new_own HG6.out hnx1 (fun k e => by cases e; exact Nat.le_refl _)); clear hsl1 hgr1 hnx1 hl9a; have hl9a := (f9 _ HG7.out).1)
    | ((with_reducible refine sl.append_sl 51 71 2 i0 (.agg #[.int .u32 0, .int .u32 0]) 8 (.tmp 81) (.tmp 85) Tryd.underlying51 hi hz0 hz1 hz2 rfl _ es.length (flat et es) ?_ (HV1.out.grown (grown_alloc (grown_refl _ _) _)) _ 1 [.int .u32 a, .int .u32 o] ?_ (sl.src_one w7 [.int .u32 a, .int .u32 o] 2 71 Tryd.underlying51 rfl HON.out) ?_ ?_ ?_); (rfl); (rfl); (unfold maxLen; omega); (omega); intro v2 w9 hsl2 hgr2 hnx2; obtain ⟨ad2, cap2, rfl⟩ := hsl2.form; have HV2 := Lib.hid hsl2; have HG9 := Lib.hid (grown_new' (grown_trans HG7.out (grown_alloc (grown_refl _ _) _)) HN1.out hgr2); have HN2 : Hid (∀ k, (Value.slice ad2 (es.length + 1) cap2).ownBlock = some k → w5.heap.size ≤ k) := Lib.hid (new_own (grown_trans HG7.out (grown_alloc (grown_refl _ _) _)) hnx2 HN1.out); clear hsl2 hgr2 hnx2 hl9a; have hl9a := (f9 _ HG9.out).1; have hf9a := (f9 _ HG9.out).2))
  go_ret
  have hL9 := HL5.out.grown HG9.out
  have hs : Sl w9 71 2 (.slice ad2 (es.length + 1) cap2) (es ++ [(a, o)]).length (flat et (es ++ [(a, o)])) := by
    rw [sl.flat_append, List.length_append]
    exact HV2.out
  obtain ⟨r1, r2⟩ := hL9.put hs
  have hM9 := HM5.out.kept HG9.out
  have hfr : Fr w9 (w9.setCell ⟨b, 9, none⟩ (.slice ad2 (es.length + 1) cap2)) (fun k => k = b ∨ some g = some k) := Fr.of_grown (grown_setCell w9 b 9 _) (fun k e => .inl (Option.some.inj e).symm)
  refine ⟨rfl, .slice ad2 (es.length + 1) cap2, ⟨r1.blk, r1.sl⟩, hM9.grown (grown_setCell _ _ _ _) (fun k e => ?_), (HF5.out.trans (Fr.of_grown HG9.out (fun k e => by cases e))).trans hfr, fun k hk => Nat.le_trans HF5.out.size (HN2.out k hk)⟩
  cases e
  exact ⟨_, _, _, hL9.blk, by decide, by decide⟩
end
end Go.Proofs.YtfjjmlmkpdpdfaaDoor.ud
