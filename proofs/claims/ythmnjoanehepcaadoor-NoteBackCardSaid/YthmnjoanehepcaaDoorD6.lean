/-
  The law NoteBack returns true: the walk. Condition: the table of kinds lies in its variable as the program's text has it.
-/
import Derived.Test.YthmnjoanehepcaaDoorL
namespace Go.Proofs.YthmnjoanehepcaaDoor.nn
open Go Go.ChangeShapes Go.WideShapes Go.ChangeAt Go.RowKit
set_option linter.unusedVariables false
set_option maxRecDepth 100000
set_option maxHeartbeats 1000000

theorem long_true (n : Nt) (s : ByteArray) (h : 1000 < s.size) (w : World) (hT : Tab w) : Calls Tryd.prog 6 #[.agg (na n), .string s] w fun e w' => e = .returned (.bool true) ∧ w.grownBy w' none := by
  have HT := Lib.hid (fun w' (h : w.grownBy w' none) => hT.grown h)
  have HWK : Hid (∀ w', Tab w' → _) := Lib.hid fun w' h => works_any w' h
  have HG := Lib.hid (grown_alloc (grown_refl w none) (.cells (na n) 31))
  clear hT
  go_enter Tryd.func6, Tryd.ntmps6
  go_wp2_with (go_at_call 11; ((with_reducible refine (HWK.out _ (HT.out _ HG.out)).mono ?_); rintro e w4 ⟨rfl, hg4⟩; have H4 := Lib.hid (grown_trans HG.out hg4); clear hg4))
  go_ret
  exact ⟨rfl, H4.out⟩
/-- What Take answers, as a note and a number. -/
def took (l : List UInt8) : Nt := if l.length = 78 ∧ (tk l).ok then tk l else zn
def tookE (l : List UInt8) : Int := if l.length = 78 ∧ (tk l).ok then 0 else 6
theorem take_took (l : List UInt8) (hl : l.length ≤ 1000000) (w : World) (hT : Tab w) : Calls Tryd.prog 17 #[S l] w fun e w' => e = .returned (.tuple #[.agg (na (took l)), .int .i64 (tookE l)]) ∧ w.grownBy w' none := by
  have h := take_any l hl w hT
  unfold took tookE
  split
  · rename_i hh; rw [if_pos hh] at h; exact h
  · rename_i hh; rw [if_neg hh] at h; exact h

theorem q31z (w : World) : (binOp .eql 31 (.agg (na zn)) (.agg #[.int .u8 0, .int .i64 0, .int .i64 0, .int .i64 0, .int .u64 0, .int .u8 0, .bool false, .bool false, .int .u32 0, .int .u32 0, .int .u32 0, .int .u32 0, .int .u32 0, .int .u32 0, .int .u32 0, .int .u32 0, .int .u32 0, .int .u32 0, .int .u32 0, .int .u32 0, .int .u32 0, .int .u32 0, .int .u32 0, .int .u32 0])).run Tryd.prog w = .ok (.bool true) w := by
  have := q31e zn zn w
  rw [decide_eq_true rfl] at this
  exact this
/-- What NoteBack's second half is told: Take of s, Put of that. -/
structure Half (l : List UInt8) : Prop where
  good : tookE l = 0 → took l = tk l ∧ (tk l).ok ∧ l.length = 78
  bad : tookE l ≠ 0 → took l = zn ∧ tookE l = 6
theorem half (l : List UInt8) : Half l := by
  by_cases h : l.length = 78 ∧ (tk l).ok
  · exact ⟨fun _ => ⟨if_pos h, h.2, h.1⟩, fun h' => absurd (if_pos h) h'⟩
  · have e : tookE l = 6 := if_neg h
    exact ⟨fun h' => (by rw [e] at h'; cases h'), fun _ => ⟨if_neg h, e⟩⟩

section
variable (n : Nt) (hF : n.Fit) (l : List UInt8) (hl : l.length ≤ 1000) (w : World) (hT : Tab w)
include hF hl hT
theorem back_y_y (hok : n.ok) (htk : tookE l = 0) : Calls Tryd.prog 6 #[.agg (na n), S l] w fun e w' => e = .returned (.bool true) ∧ w.grownBy w' none := by
  have HT := Lib.hid (fun w' (h : w.grownBy w' none) => hT.grown h)
  have HWK : Hid (∀ w', Tab w' → _) := Lib.hid fun w' h => works_any w' h
  have HP : Hid (∀ w', Tab w' → _) := Lib.hid fun w' h => put_any n hF w' h
  have HTK : Hid (∀ w', Tab w' → _) := Lib.hid fun w' h => take_took l (by omega) w' h
  have hsz : (ByteArray.mk l.toArray).size = l.length := by show l.toArray.size = _; simp
  rw [if_pos hok, yes_of hok] at HP
  have HTP : Hid (∀ w', Tab w' → _) := Lib.hid fun w' h => take_took (putb n) (by rw [putb_len]; omega) w' h
  have hcp : (putb n).length = 78 ∧ (tk (putb n)).ok := ⟨putb_len n, by rw [tk_putb n hok hF]; exact hok⟩
  rw [show took (putb n) = n from (if_pos hcp).trans (tk_putb n hok hF), show tookE (putb n) = 0 from if_pos hcp] at HTP
  have q1 : ∀ w, (binOp .neq 31 (.agg (na n)) (.agg (na n))).run Tryd.prog w = .ok (.bool false) w := fun w => by rw [q31n, decide_eq_true rfl]; rfl
  clear hcp
  generalize putb n = pl at *
  obtain ⟨g1, g2, g3⟩ := (half l).good htk
  rw [htk, g1] at HTK
  have HP2 : Hid (∀ w', Tab w' → _) := Lib.hid fun w' h => put_yes (tk l) w' h g2 (tk_fit l)
  rw [putb_tk l g3 g2] at HP2
  generalize tk l = m at *
  clear g1 g2 g3
  obtain ⟨wb, hwb⟩ : ∃ wb, w.alloc (.cells (na n) 31) = wb := ⟨_, rfl⟩
  have HG : Hid (w.grownBy wb none) := Lib.hid (hwb ▸ grown_alloc (grown_refl w none) (.cells (na n) 31))
  have HR : Hid (wb.rangeAt w.heap.size 0 (nt n)) := Lib.hid (hwb ▸ range_of (heap_alloc_new w (.cells (na n) 31)))
  have HWB := Lib.hid hwb
  clear hT hwb hok htk hF
  go_enter Tryd.func6, Tryd.ntmps6
  go_wp2_with (first
    | ((with_reducible refine load_nt n 2 w.heap.size ?_ (by rw [HWB.out]; exact HR.out) ?_); (rfl))
    | (go_at_call 9; (rw [HWB.out]; (with_reducible refine (HP.out _ (HT.out _ HG.out)).mono ?_); rintro e w2 ⟨rfl, hg2⟩; have H2 := Lib.hid hg2; clear hg2))
    | (go_at_call 17; ((with_reducible refine (HTP.out _ (HT.out _ (grown_trans HG.out H2.out))).mono ?_); rintro e w3 ⟨rfl, hg3⟩; have H3 := Lib.hid (grown_trans H2.out hg3); have hr3 := range_grown HR.out (grown_alloc H3.out (.cells (na n) 31)) (by simp); have hn3 := range_of (heap_alloc_new w3 (.cells (na n) 31)); clear hg3 H2))
    | ((with_reducible refine store_new n _ 7 24 ?_ ?_ ?_ ?_); (rfl); (rfl); (rfl))
    | ((with_reducible refine load_nt n 7 w3.heap.size ?_ hn3 ?_); (rfl))
    | ((with_reducible refine load_nt n 2 w.heap.size ?_ hr3 ?_); (rfl))
    | (go_at_call 17; ((with_reducible refine (HTK.out _ (HT.out _ (grown_trans HG.out (grown_alloc H3.out (.cells (na n) 31))))).mono ?_); rintro e w4 ⟨rfl, hg4⟩; have H4 := Lib.hid (grown_trans HG.out (grown_trans (grown_alloc H3.out (.cells (na n) 31)) hg4)); clear hg4))
    | ((with_reducible refine store_new m _ 9 36 ?_ ?_ ?_ ?_); (rfl); (rfl); (rfl))
    | ((with_reducible refine load_nt m 9 w4.heap.size ?_ (range_of (heap_alloc_new w4 (.cells (na m) 31))) ?_); (rfl))
    | (go_at_call 9; ((with_reducible refine (HP2.out _ (HT.out _ (grown_alloc H4.out _))).mono ?_); rintro e w5 ⟨rfl, hg5⟩; have H5 := Lib.hid (grown_trans (grown_alloc H4.out _) hg5); clear hg5))
    | (go_at_call 11; ((with_reducible refine (HWK.out _ (HT.out _ H5.out)).mono ?_); rintro e w6 ⟨rfl, hg6⟩; have H6 := Lib.hid (grown_trans H5.out hg6); clear hg6)))
  go_ret
  exact ⟨rfl, H6.out⟩
theorem back_y_n (hok : n.ok) (htk : tookE l ≠ 0) : Calls Tryd.prog 6 #[.agg (na n), S l] w fun e w' => e = .returned (.bool true) ∧ w.grownBy w' none := by
  have HT := Lib.hid (fun w' (h : w.grownBy w' none) => hT.grown h)
  have HWK : Hid (∀ w', Tab w' → _) := Lib.hid fun w' h => works_any w' h
  have HP : Hid (∀ w', Tab w' → _) := Lib.hid fun w' h => put_any n hF w' h
  have HTK : Hid (∀ w', Tab w' → _) := Lib.hid fun w' h => take_took l (by omega) w' h
  have hsz : (ByteArray.mk l.toArray).size = l.length := by show l.toArray.size = _; simp
  rw [if_pos hok, yes_of hok] at HP
  have HTP : Hid (∀ w', Tab w' → _) := Lib.hid fun w' h => take_took (putb n) (by rw [putb_len]; omega) w' h
  have hcp : (putb n).length = 78 ∧ (tk (putb n)).ok := ⟨putb_len n, by rw [tk_putb n hok hF]; exact hok⟩
  rw [show took (putb n) = n from (if_pos hcp).trans (tk_putb n hok hF), show tookE (putb n) = 0 from if_pos hcp] at HTP
  have q1 : ∀ w, (binOp .neq 31 (.agg (na n)) (.agg (na n))).run Tryd.prog w = .ok (.bool false) w := fun w => by rw [q31n, decide_eq_true rfl]; rfl
  clear hcp
  generalize putb n = pl at *
  obtain ⟨g1, g2⟩ := (half l).bad htk
  rw [g1, g2] at HTK
  have q2 := q31z
  clear g1 g2
  obtain ⟨wb, hwb⟩ : ∃ wb, w.alloc (.cells (na n) 31) = wb := ⟨_, rfl⟩
  have HG : Hid (w.grownBy wb none) := Lib.hid (hwb ▸ grown_alloc (grown_refl w none) (.cells (na n) 31))
  have HR : Hid (wb.rangeAt w.heap.size 0 (nt n)) := Lib.hid (hwb ▸ range_of (heap_alloc_new w (.cells (na n) 31)))
  have HWB := Lib.hid hwb
  clear hT hwb hok htk hF
  go_enter Tryd.func6, Tryd.ntmps6
  go_wp2_with (first
    | ((with_reducible refine load_nt n 2 w.heap.size ?_ (by rw [HWB.out]; exact HR.out) ?_); (rfl))
    | (go_at_call 9; (rw [HWB.out]; (with_reducible refine (HP.out _ (HT.out _ HG.out)).mono ?_); rintro e w2 ⟨rfl, hg2⟩; have H2 := Lib.hid hg2; clear hg2))
    | (go_at_call 17; ((with_reducible refine (HTP.out _ (HT.out _ (grown_trans HG.out H2.out))).mono ?_); rintro e w3 ⟨rfl, hg3⟩; have H3 := Lib.hid (grown_trans H2.out hg3); have hr3 := range_grown HR.out (grown_alloc H3.out (.cells (na n) 31)) (by simp); have hn3 := range_of (heap_alloc_new w3 (.cells (na n) 31)); clear hg3 H2))
    | ((with_reducible refine store_new n _ 7 24 ?_ ?_ ?_ ?_); (rfl); (rfl); (rfl))
    | ((with_reducible refine load_nt n 7 w3.heap.size ?_ hn3 ?_); (rfl))
    | ((with_reducible refine load_nt n 2 w.heap.size ?_ hr3 ?_); (rfl))
    | (go_at_call 17; ((with_reducible refine (HTK.out _ (HT.out _ (grown_trans HG.out (grown_alloc H3.out (.cells (na n) 31))))).mono ?_); rintro e w4 ⟨rfl, hg4⟩; have H4 := Lib.hid (grown_trans HG.out (grown_trans (grown_alloc H3.out (.cells (na n) 31)) hg4)); clear hg4))
    | ((with_reducible refine store_new zn _ 9 36 ?_ ?_ ?_ ?_); (rfl); (rfl); (rfl))
    | ((with_reducible refine load_nt zn 9 w4.heap.size ?_ (range_of (heap_alloc_new w4 (.cells (na zn) 31))) ?_); (rfl))
    | (go_at_call 11; ((with_reducible refine (HWK.out _ (HT.out _ (grown_alloc H4.out _))).mono ?_); rintro e w6 ⟨rfl, hg6⟩; have H6 := Lib.hid (grown_trans (grown_alloc H4.out _) hg6); clear hg6)))
  go_ret
  exact ⟨rfl, H6.out⟩
theorem back_n_y (hok : ¬ n.ok) (htk : tookE l = 0) : Calls Tryd.prog 6 #[.agg (na n), S l] w fun e w' => e = .returned (.bool true) ∧ w.grownBy w' none := by
  have HT := Lib.hid (fun w' (h : w.grownBy w' none) => hT.grown h)
  have HWK : Hid (∀ w', Tab w' → _) := Lib.hid fun w' h => works_any w' h
  have HP : Hid (∀ w', Tab w' → _) := Lib.hid fun w' h => put_any n hF w' h
  have HTK : Hid (∀ w', Tab w' → _) := Lib.hid fun w' h => take_took l (by omega) w' h
  have hsz : (ByteArray.mk l.toArray).size = l.length := by show l.toArray.size = _; simp
  rw [if_neg hok, yes_not hok] at HP
  obtain ⟨g1, g2, g3⟩ := (half l).good htk
  rw [htk, g1] at HTK
  have HP2 : Hid (∀ w', Tab w' → _) := Lib.hid fun w' h => put_yes (tk l) w' h g2 (tk_fit l)
  rw [putb_tk l g3 g2] at HP2
  generalize tk l = m at *
  clear g1 g2 g3
  obtain ⟨wb, hwb⟩ : ∃ wb, w.alloc (.cells (na n) 31) = wb := ⟨_, rfl⟩
  have HG : Hid (w.grownBy wb none) := Lib.hid (hwb ▸ grown_alloc (grown_refl w none) (.cells (na n) 31))
  have HR : Hid (wb.rangeAt w.heap.size 0 (nt n)) := Lib.hid (hwb ▸ range_of (heap_alloc_new w (.cells (na n) 31)))
  have HWB := Lib.hid hwb
  clear hT hwb hok htk hF
  go_enter Tryd.func6, Tryd.ntmps6
  go_wp2_with (first
    | ((with_reducible refine load_nt n 2 w.heap.size ?_ (by rw [HWB.out]; exact HR.out) ?_); (rfl))
    | (go_at_call 9; (rw [HWB.out]; (with_reducible refine (HP.out _ (HT.out _ HG.out)).mono ?_); rintro e w2 ⟨rfl, hg2⟩; have H2 := Lib.hid hg2; clear hg2))
    | (go_at_call 17; ((with_reducible refine (HTK.out _ (HT.out _ (grown_trans HG.out H2.out))).mono ?_); rintro e w4 ⟨rfl, hg4⟩; have H4 := Lib.hid (grown_trans HG.out (grown_trans H2.out hg4)); clear hg4))
    | ((with_reducible refine store_new m _ 9 36 ?_ ?_ ?_ ?_); (rfl); (rfl); (rfl))
    | ((with_reducible refine load_nt m 9 w4.heap.size ?_ (range_of (heap_alloc_new w4 (.cells (na m) 31))) ?_); (rfl))
    | (go_at_call 9; ((with_reducible refine (HP2.out _ (HT.out _ (grown_alloc H4.out _))).mono ?_); rintro e w5 ⟨rfl, hg5⟩; have H5 := Lib.hid (grown_trans (grown_alloc H4.out _) hg5); clear hg5))
    | (go_at_call 11; ((with_reducible refine (HWK.out _ (HT.out _ H5.out)).mono ?_); rintro e w6 ⟨rfl, hg6⟩; have H6 := Lib.hid (grown_trans H5.out hg6); clear hg6)))
  go_ret
  exact ⟨rfl, H6.out⟩
theorem back_n_n (hok : ¬ n.ok) (htk : tookE l ≠ 0) : Calls Tryd.prog 6 #[.agg (na n), S l] w fun e w' => e = .returned (.bool true) ∧ w.grownBy w' none := by
  have HT := Lib.hid (fun w' (h : w.grownBy w' none) => hT.grown h)
  have HWK : Hid (∀ w', Tab w' → _) := Lib.hid fun w' h => works_any w' h
  have HP : Hid (∀ w', Tab w' → _) := Lib.hid fun w' h => put_any n hF w' h
  have HTK : Hid (∀ w', Tab w' → _) := Lib.hid fun w' h => take_took l (by omega) w' h
  have hsz : (ByteArray.mk l.toArray).size = l.length := by show l.toArray.size = _; simp
  rw [if_neg hok, yes_not hok] at HP
  obtain ⟨g1, g2⟩ := (half l).bad htk
  rw [g1, g2] at HTK
  have q2 := q31z
  clear g1 g2
  obtain ⟨wb, hwb⟩ : ∃ wb, w.alloc (.cells (na n) 31) = wb := ⟨_, rfl⟩
  have HG : Hid (w.grownBy wb none) := Lib.hid (hwb ▸ grown_alloc (grown_refl w none) (.cells (na n) 31))
  have HR : Hid (wb.rangeAt w.heap.size 0 (nt n)) := Lib.hid (hwb ▸ range_of (heap_alloc_new w (.cells (na n) 31)))
  have HWB := Lib.hid hwb
  clear hT hwb hok htk hF
  go_enter Tryd.func6, Tryd.ntmps6
  go_wp2_with (first
    | ((with_reducible refine load_nt n 2 w.heap.size ?_ (by rw [HWB.out]; exact HR.out) ?_); (rfl))
    | (go_at_call 9; (rw [HWB.out]; (with_reducible refine (HP.out _ (HT.out _ HG.out)).mono ?_); rintro e w2 ⟨rfl, hg2⟩; have H2 := Lib.hid hg2; clear hg2))
    | (go_at_call 17; ((with_reducible refine (HTK.out _ (HT.out _ (grown_trans HG.out H2.out))).mono ?_); rintro e w4 ⟨rfl, hg4⟩; have H4 := Lib.hid (grown_trans HG.out (grown_trans H2.out hg4)); clear hg4))
    | ((with_reducible refine store_new zn _ 9 36 ?_ ?_ ?_ ?_); (rfl); (rfl); (rfl))
    | ((with_reducible refine load_nt zn 9 w4.heap.size ?_ (range_of (heap_alloc_new w4 (.cells (na zn) 31))) ?_); (rfl))
    | (go_at_call 11; ((with_reducible refine (HWK.out _ (HT.out _ (grown_alloc H4.out _))).mono ?_); rintro e w6 ⟨rfl, hg6⟩; have H6 := Lib.hid (grown_trans (grown_alloc H4.out _) hg6); clear hg6)))
  go_ret
  exact ⟨rfl, H6.out⟩
end
theorem back_true (n : Nt) (s : ByteArray) (hF : n.Fit) (w : World) (hT : Tab w) : Calls Tryd.prog 6 #[.agg (na n), .string s] w fun e w' => e = .returned (.bool true) ∧ w.grownBy w' none := by
  by_cases h : 1000 < s.size
  · exact long_true n s h w hT
  · obtain ⟨l, rfl⟩ : ∃ l : List UInt8, s = ⟨l.toArray⟩ := ⟨s.data.toList, by simp⟩
    have hl : l.length ≤ 1000 := by
      have : (ByteArray.mk l.toArray).size = l.length := by show l.toArray.size = _; simp
      omega
    by_cases hok : n.ok <;> by_cases htk : tookE l = 0
    · exact back_y_y n hF l hl w hT hok htk
    · exact back_y_n n hF l hl w hT hok htk
    · exact back_n_y n hF l hl w hT hok htk
    · exact back_n_n n hF l hl w hT hok htk
end Go.Proofs.YthmnjoanehepcaaDoor.nn
