/-
  The law EntryOne returns true: the walk. Condition: the library's table lies in its variable.
-/
import Derived.Test.YtplebmafdfciaaaDoorEnM
namespace Go.Proofs.YtplebmafdfciaaaDoor.en
open Go Go.ChangeShapes Go.WideShapes Go.ChangeAt Go.RowKit
open Go.Proofs.YtplebmafdfciaaaDoor.mm (wi wo ha pop wi_lt wo_lt wi_in wi_out wo_in wo_out ha_in in_or Tab has_any with_any count_any)
set_option linter.unusedVariables false

theorem wi_16 (m : Nat) (n : Int) (hm : m < 65536) (h : n ≤ 15) : wi m n < 65536 := by
  unfold wi
  split
  · have : 2 ^ n.toNat ≤ 2 ^ 15 := Nat.pow_le_pow_right (by decide) (by omega)
    exact Nat.or_lt_two_pow (n := 16) hm (by omega)
  · exact hm
theorem ha_wi (m : Nat) (x : Int) (h0 : 0 ≤ x) (h1 : x < 32) : ha (wi m x) x = true := by
  obtain ⟨k, rfl⟩ : ∃ k : Nat, x = (k : Int) := ⟨x.toNat, by omega⟩
  rw [ha_in _ k (by omega), wi_bit m k (by omega)]; simp
theorem ha_wo (m : Nat) (x : Int) (hm : m < 4294967296) (h0 : 0 ≤ x) (h1 : x < 32) : ha (wo m x) x = false := by
  obtain ⟨k, rfl⟩ : ∃ k : Nat, x = (k : Int) := ⟨x.toNat, by omega⟩
  rw [ha_in _ k (by omega), wo_bit m k hm]; simp
theorem ha_asks (o : Int) (s : Nat) (k x : Int) (hs : s < 4294967296) (h0 : 0 ≤ x) (h1 : x < 32) : ha (asks o s k x) x = false := by
  unfold asks
  split
  · unfold ha; simp
  · exact ha_wo _ x (wi_lt s o hs) h0 h1
theorem pop_has (m : Nat) (x : Int) (h0 : 0 ≤ x) (h1 : x < 32) (h : ha m x = true) : 0 < pop m 32 := by
  obtain ⟨k, rfl⟩ : ∃ k : Nat, x = (k : Int) := ⟨x.toNat, by omega⟩
  rw [ha_in _ k (by omega)] at h
  by_cases hp : pop m 32 = 0
  · have := pop_zero m 32 hp k (by omega)
    rw [this] at h; cases h
  · omega
/-- What x gets. -/
theorem gets_three (o : Int) (s : Nat) (k x : Int) (h : ask ⟨o, s⟩ k x = true) :
    (∃ t, gets ⟨o, s⟩ k x = (⟨x, 0⟩, t, 0) ∧ ((t == 1) = false) ∧ (((t == 2) = true) ∨ ((t == 2) = false ∧ (t == 3) = true))) ∨ (∃ m, gets ⟨o, s⟩ k x = (⟨-1, m⟩, 1, 0) ∧ m < 65536 ∧ ha m x = true ∧ 1 < pop m 32) := by
  obtain ⟨hm, hx, hk⟩ := ask_parts h
  obtain ⟨h1, h2, h3, h4⟩ := may_parts hm
  unfold gets
  rw [if_pos h]
  split
  · exact .inl ⟨3, rfl, by decide, .inr ⟨by decide, by decide⟩⟩
  · split
    · exact .inl ⟨2, rfl, by decide, .inl (by decide)⟩
    · rename_i hp
      have hh := ha_wi (wi s o) x hx.1 (by omega)
      have := pop_has _ x hx.1 (by omega) hh
      exact .inr ⟨_, rfl, wi_16 _ _ (wi_16 _ _ h3 h2) hx.2, hh, by
        show 1 < pop (wi (wi s o) x) 32
        have hp' : ¬ pop (wi (wi s o) x) 32 = 1 := hp
        omega⟩

set_option maxRecDepth 1000000 in
set_option maxHeartbeats 4000000 in
theorem one_bad (o : Int) (s : Nat) (k x : Int) (w : World) (hs : s < 4294967296) (hT : Tab w) (hask : ask ⟨o, s⟩ k x = false) : Calls Tryd.prog 5 #[.agg #[.int .i64 o, .int .u32 (s : Int)], .int .u8 k, .int .i64 x] w fun e w' => e = .returned (.bool true) ∧ w.grownBy w' none := by
  have HE0 : Hid ((w.alloc (.cells #[.int .i64 o, .int .u32 (s : Int)] 25)).heap[w.heap.size]? = some (.cells #[.int .i64 o, .int .u32 (s : Int)] 25 (0, 0))) := Lib.hid (heap_alloc_new _ _)
  have HG0 : Hid (w.grownBy (w.alloc (.cells #[.int .i64 o, .int .u32 (s : Int)] 25)) none) := Lib.hid (grown_alloc (grown_refl _ _) _)
  have HT0 := Lib.hid (tab_grown hT HG0.out)
  have HA : Hid (∀ w, Tab w → _) := Lib.hid fun w h => asked_any o s k x w hs h
  have HP : Hid (∀ w, _) := Lib.hid fun w => gets_any o s k x w hs
  have HW : Hid (∀ w, _) := Lib.hid fun w => works_any w
  have h1 : asked ⟨o, s⟩ k x = (0, 0, 2) := by unfold asked; rw [hask]; rfl
  have h2 : gets ⟨o, s⟩ k x = (⟨0, 0⟩, 0, 2) := by unfold gets; rw [hask]; rfl
  rw [h1] at HA
  rw [h2] at HP
  unfold told at HA
  unfold got at HP
  have he := eq_same
  clear hT hs hask h1 h2
  go_enter Tryd.func5, Tryd.ntmps5
  go_wp2_with (first
    | ((with_reducible refine load_en _ _ _ _ _ w.heap.size ?_ HE0.out ?_); (rfl))
    | (go_at_call 7; ((with_reducible refine (HA.out _ HT0.out).mono ?_); rintro e w5 ⟨rfl, hg5⟩; have HE5 := Lib.hid (row_grown HE0.out hg5); have HG5 := Lib.hid (grown_trans HG0.out hg5); clear hg5))
    | ((with_reducible refine load_en _ _ _ _ _ w.heap.size ?_ HE5.out ?_); (rfl))
    | (go_at_call 9; ((with_reducible refine (HP.out _).mono ?_); rintro e w6 ⟨rfl, hg6⟩; have HP6 : Hid ((w6.alloc (.cells #[.int .i64 0, .int .u32 0] 25)).heap[w6.heap.size]? = some (.cells #[.int .i64 0, .int .u32 0] 25 (0, 0))) := Lib.hid (heap_alloc_new _ _); have HG6 : Hid (w.grownBy (w6.alloc (.cells #[.int .i64 0, .int .u32 0] 25)) none) := Lib.hid (grown_alloc (grown_trans HG5.out hg6) _); clear hg6))
    | ((with_reducible refine store_enN 0 0 _ _ _ _ ?_ ?_ ?_ ?_); (rfl); (rfl); (rfl))
    | (go_at_call 8; ((with_reducible refine (HW.out _).mono ?_); rintro e w11 ⟨rfl, hg11⟩; have HG11 := Lib.hid (grown_trans HG6.out hg11); clear hg11)))
  go_ret
  exact ⟨rfl, HG11.out⟩

set_option maxRecDepth 1000000 in
set_option maxHeartbeats 4000000 in
theorem one_shared (o : Int) (s : Nat) (k x : Int) (w : World) (hs : s < 4294967296) (hT : Tab w) (hask : ask ⟨o, s⟩ k x = true) (m : Nat) (h2 : gets ⟨o, s⟩ k x = (⟨-1, m⟩, 1, 0)) (hm : m < 65536) (hh : ha m x = true) (hp : 1 < pop m 32) : Calls Tryd.prog 5 #[.agg #[.int .i64 o, .int .u32 (s : Int)], .int .u8 k, .int .i64 x] w fun e w' => e = .returned (.bool true) ∧ w.grownBy w' none := by
  have HE0 : Hid ((w.alloc (.cells #[.int .i64 o, .int .u32 (s : Int)] 25)).heap[w.heap.size]? = some (.cells #[.int .i64 o, .int .u32 (s : Int)] 25 (0, 0))) := Lib.hid (heap_alloc_new _ _)
  have HG0 : Hid (w.grownBy (w.alloc (.cells #[.int .i64 o, .int .u32 (s : Int)] 25)) none) := Lib.hid (grown_alloc (grown_refl _ _) _)
  have HT0 := Lib.hid (tab_grown hT HG0.out)
  have HA : Hid (∀ w, Tab w → _) := Lib.hid fun w h => asked_any o s k x w hs h
  have HP : Hid (∀ w, _) := Lib.hid fun w => gets_any o s k x w hs
  have HW : Hid (∀ w, _) := Lib.hid fun w => works_any w
  have hx := (ask_parts hask).2.1
  have h1 : asked ⟨o, s⟩ k x = (asks o s k x, (if k = 1 then 4 else 5), 0) := by unfold asked; rw [hask]; rfl
  rw [h1] at HA
  rw [h2] at HP
  unfold told at HA
  unfold got at HP
  have hal := asks_lt o s k x hs
  have HH1 : Hid (∀ w, _) := Lib.hid fun w => has_any (asks o s k x) x w hal
  rw [ha_asks o s k x hs hx.1 (by omega)] at HH1
  have hm32 : m < 4294967296 := by omega
  have HH2 : Hid (∀ w, _) := Lib.hid fun w => has_any m x w hm32
  rw [hh] at HH2
  have HM : Hid (∀ w, _) := Lib.hid fun w => may_any (-1) m w hm32
  rw [may_yes (by omega)] at HM
  unfold err at HM
  have HK : Hid (∀ w, _) := Lib.hid fun w => lknown_any (-1) m w hm32
  rw [wi_out m (-1) (by omega)] at HK
  have HC : Hid (∀ w, _) := Lib.hid fun w => count_any m w hm32
  obtain ⟨c, hc⟩ : ∃ c, c = pop m 32 := ⟨_, rfl⟩
  rw [← hc] at HC hp
  have hp1 : decide (1 < (c : Int)) = true := decide_eq_true (by omega)
  generalize asks o s k x = a at HA HH1
  generalize (if k = 1 then (4 : Int) else 5) = b at HA
  clear hT hs hask h1 h2 hal hm32 hm hh hp hx hc
  go_enter Tryd.func5, Tryd.ntmps5
  go_wp2_with (first
    | ((with_reducible refine load_en _ _ _ _ _ w.heap.size ?_ HE0.out ?_); (rfl))
    | (go_at_call 7; ((with_reducible refine (HA.out _ HT0.out).mono ?_); rintro e w5 ⟨rfl, hg5⟩; have HE5 := Lib.hid (row_grown HE0.out hg5); have HG5 := Lib.hid (grown_trans HG0.out hg5); clear hg5))
    | ((with_reducible refine load_en _ _ _ _ _ w.heap.size ?_ HE5.out ?_); (rfl))
    | (go_at_call 9; ((with_reducible refine (HP.out _).mono ?_); rintro e w6 ⟨rfl, hg6⟩; have HP6 : Hid ((w6.alloc (.cells #[.int .i64 (-1), .int .u32 (m : Int)] 25)).heap[w6.heap.size]? = some (.cells #[.int .i64 (-1), .int .u32 (m : Int)] 25 (0, 0))) := Lib.hid (heap_alloc_new _ _); have HG6 : Hid (w.grownBy (w6.alloc (.cells #[.int .i64 (-1), .int .u32 (m : Int)] 25)) none) := Lib.hid (grown_alloc (grown_trans HG5.out hg6) _); clear hg6))
    | ((with_reducible refine store_enN (-1) (m : Int) _ _ _ _ ?_ ?_ ?_ ?_); (rfl); (rfl); (rfl))
    | ((with_reducible refine load_en _ _ _ _ _ w6.heap.size ?_ HP6.out ?_); (rfl))
    | (go_at_call 13; ((with_reducible refine (HM.out _).mono ?_); rintro e w7 ⟨rfl, hg7⟩; have HP7 := Lib.hid (row_grown HP6.out hg7); obtain ⟨c70, c71⟩ := cells2 HP7.out; have HG7 := Lib.hid (grown_trans HG6.out hg7); clear hg7))
    | (go_at_call 16; ((with_reducible refine (HH1.out _).mono ?_); rintro e w8 ⟨rfl, rfl⟩))
    | ((with_reducible refine load_en _ _ _ _ _ w6.heap.size ?_ HP7.out ?_); (rfl))
    | (go_at_call 17; ((with_reducible refine (HK.out _).mono ?_); rintro e w9 ⟨rfl, hg9⟩; have HP9 := Lib.hid (row_grown HP7.out hg9); obtain ⟨c90, c91⟩ := cells2 HP9.out; have HG9 := Lib.hid (grown_trans HG7.out hg9); clear hg9))
    | (go_at_call 16; ((with_reducible refine (HH2.out _).mono ?_); rintro e w8 ⟨rfl, rfl⟩))
    | (go_at_call 18; ((with_reducible refine (HC.out _).mono ?_); rintro e w10 ⟨rfl, n10, hw10⟩; have HG10 := Lib.hid (hw10 ▸ grown_drewN HG9.out n10); clear hw10))
    | (go_at_call 8; ((with_reducible refine (HW.out _).mono ?_); rintro e w11 ⟨rfl, hg11⟩; have HG11 := Lib.hid (grown_trans HG10.out hg11); clear hg11)))
  go_ret
  exact ⟨rfl, HG11.out⟩

set_option maxRecDepth 1000000 in
set_option maxHeartbeats 4000000 in
theorem one_alone (o : Int) (s : Nat) (k x : Int) (w : World) (hs : s < 4294967296) (hT : Tab w) (hask : ask ⟨o, s⟩ k x = true) (t : Int) (h2 : gets ⟨o, s⟩ k x = (⟨x, 0⟩, t, 0)) (t1 : (t == 1) = false) (t2 : (t == 2) = true) : Calls Tryd.prog 5 #[.agg #[.int .i64 o, .int .u32 (s : Int)], .int .u8 k, .int .i64 x] w fun e w' => e = .returned (.bool true) ∧ w.grownBy w' none := by
  have HE0 : Hid ((w.alloc (.cells #[.int .i64 o, .int .u32 (s : Int)] 25)).heap[w.heap.size]? = some (.cells #[.int .i64 o, .int .u32 (s : Int)] 25 (0, 0))) := Lib.hid (heap_alloc_new _ _)
  have HG0 : Hid (w.grownBy (w.alloc (.cells #[.int .i64 o, .int .u32 (s : Int)] 25)) none) := Lib.hid (grown_alloc (grown_refl _ _) _)
  have HT0 := Lib.hid (tab_grown hT HG0.out)
  have HA : Hid (∀ w, Tab w → _) := Lib.hid fun w h => asked_any o s k x w hs h
  have HP : Hid (∀ w, _) := Lib.hid fun w => gets_any o s k x w hs
  have HW : Hid (∀ w, _) := Lib.hid fun w => works_any w
  have hx := (ask_parts hask).2.1
  have h1 : asked ⟨o, s⟩ k x = (asks o s k x, (if k = 1 then 4 else 5), 0) := by unfold asked; rw [hask]; rfl
  rw [h1] at HA
  rw [h2] at HP
  unfold told at HA
  unfold got at HP
  have hal := asks_lt o s k x hs
  have HH1 : Hid (∀ w, _) := Lib.hid fun w => has_any (asks o s k x) x w hal
  rw [ha_asks o s k x hs hx.1 (by omega)] at HH1
  have hml := wi_lt 0 x (by decide)
  have HH2 : Hid (∀ w, _) := Lib.hid fun w => has_any (wi 0 x) x w hml
  rw [ha_wi 0 x hx.1 (by omega)] at HH2
  have HM : Hid (∀ w, Calls Tryd.prog 13 #[.agg #[.int .i64 x, .int .u32 0]] w fun e w' => e = .returned (.int .i64 (err (En.may ⟨x, 0⟩))) ∧ w.grownBy w' none) := Lib.hid fun w => may_any x 0 w (by decide)
  rw [may_yes (by omega)] at HM
  unfold err at HM
  have HK : Hid (∀ w, Calls Tryd.prog 17 #[.agg #[.int .i64 x, .int .u32 0]] w fun e w' => e = .returned (.int .u32 (wi 0 x : Nat)) ∧ w.grownBy w' none) := Lib.hid fun w => lknown_any x 0 w (by decide)
  have HWI : Hid (∀ w, Calls Tryd.prog 19 #[.int .u32 0, .int .i64 x] w fun e w' => e = .returned (.int .u32 (wi 0 x : Nat)) ∧ w = w') := Lib.hid fun w => with_any 0 x w (by decide)
  generalize asks o s k x = a at HA HH1
  generalize (if k = 1 then (4 : Int) else 5) = b at HA
  generalize wi 0 x = m at HH2 HK HWI
  have em : ((m : Int) == (m : Int)) = true := by simp
  have ex : (x == x) = true := by simp
  clear hT hs hask h1 h2 hal hml hx
  go_enter Tryd.func5, Tryd.ntmps5
  go_wp2_with (first
    | ((with_reducible refine load_en _ _ _ _ _ w.heap.size ?_ HE0.out ?_); (rfl))
    | (go_at_call 7; ((with_reducible refine (HA.out _ HT0.out).mono ?_); rintro e w5 ⟨rfl, hg5⟩; have HE5 := Lib.hid (row_grown HE0.out hg5); have HG5 := Lib.hid (grown_trans HG0.out hg5); clear hg5))
    | ((with_reducible refine load_en _ _ _ _ _ w.heap.size ?_ HE5.out ?_); (rfl))
    | (go_at_call 9; ((with_reducible refine (HP.out _).mono ?_); rintro e w6 ⟨rfl, hg6⟩; have HP6 : Hid ((w6.alloc (.cells #[.int .i64 x, .int .u32 0] 25)).heap[w6.heap.size]? = some (.cells #[.int .i64 x, .int .u32 0] 25 (0, 0))) := Lib.hid (heap_alloc_new _ _); have HG6 : Hid (w.grownBy (w6.alloc (.cells #[.int .i64 x, .int .u32 0] 25)) none) := Lib.hid (grown_alloc (grown_trans HG5.out hg6) _); clear hg6))
    | ((with_reducible refine store_enN x 0 _ _ _ _ ?_ ?_ ?_ ?_); (rfl); (rfl); (rfl))
    | ((with_reducible refine load_en _ _ _ _ _ w6.heap.size ?_ HP6.out ?_); (rfl))
    | (go_at_call 13; ((with_reducible refine (HM.out _).mono ?_); rintro e w7 ⟨rfl, hg7⟩; have HP7 := Lib.hid (row_grown HP6.out hg7); obtain ⟨c70, c71⟩ := cells2 HP7.out; have HG7 := Lib.hid (grown_trans HG6.out hg7); clear hg7))
    | (go_at_call 16; ((with_reducible refine (HH1.out _).mono ?_); rintro e w8 ⟨rfl, rfl⟩))
    | ((with_reducible refine load_en _ _ _ _ _ w6.heap.size ?_ HP7.out ?_); (rfl))
    | (go_at_call 17; ((with_reducible refine (HK.out _).mono ?_); rintro e w9 ⟨rfl, hg9⟩; have HP9 := Lib.hid (row_grown HP7.out hg9); obtain ⟨c90, c91⟩ := cells2 HP9.out; have HG9 := Lib.hid (grown_trans HG7.out hg9); clear hg9))
    | (go_at_call 16; ((with_reducible refine (HH2.out _).mono ?_); rintro e w8 ⟨rfl, rfl⟩))
    | ((with_reducible refine load_en _ _ _ _ _ w6.heap.size ?_ HP9.out ?_); (rfl))
    | (go_at_call 17; ((with_reducible refine (HK.out _).mono ?_); rintro e w10 ⟨rfl, hg10⟩; have HG10 := Lib.hid (grown_trans HG9.out hg10); clear hg10))
    | (go_at_call 19; ((with_reducible refine (HWI.out _).mono ?_); rintro e w8 ⟨rfl, rfl⟩))
    | (go_at_call 8; ((with_reducible refine (HW.out _).mono ?_); rintro e w11 ⟨rfl, hg11⟩; have HG11 := Lib.hid (grown_trans HG10.out hg11); clear hg11)))
  go_ret
  exact ⟨rfl, HG11.out⟩

set_option maxRecDepth 1000000 in
set_option maxHeartbeats 4000000 in
theorem one_own (o : Int) (s : Nat) (k x : Int) (w : World) (hs : s < 4294967296) (hT : Tab w) (hask : ask ⟨o, s⟩ k x = true) (t : Int) (h2 : gets ⟨o, s⟩ k x = (⟨x, 0⟩, t, 0)) (t1 : (t == 1) = false) (t2 : (t == 2) = false) (t3 : (t == 3) = true) : Calls Tryd.prog 5 #[.agg #[.int .i64 o, .int .u32 (s : Int)], .int .u8 k, .int .i64 x] w fun e w' => e = .returned (.bool true) ∧ w.grownBy w' none := by
  have HE0 : Hid ((w.alloc (.cells #[.int .i64 o, .int .u32 (s : Int)] 25)).heap[w.heap.size]? = some (.cells #[.int .i64 o, .int .u32 (s : Int)] 25 (0, 0))) := Lib.hid (heap_alloc_new _ _)
  have HG0 : Hid (w.grownBy (w.alloc (.cells #[.int .i64 o, .int .u32 (s : Int)] 25)) none) := Lib.hid (grown_alloc (grown_refl _ _) _)
  have HT0 := Lib.hid (tab_grown hT HG0.out)
  have HA : Hid (∀ w, Tab w → _) := Lib.hid fun w h => asked_any o s k x w hs h
  have HP : Hid (∀ w, _) := Lib.hid fun w => gets_any o s k x w hs
  have HW : Hid (∀ w, _) := Lib.hid fun w => works_any w
  have hx := (ask_parts hask).2.1
  have h1 : asked ⟨o, s⟩ k x = (asks o s k x, (if k = 1 then 4 else 5), 0) := by unfold asked; rw [hask]; rfl
  rw [h1] at HA
  rw [h2] at HP
  unfold told at HA
  unfold got at HP
  have hal := asks_lt o s k x hs
  have HH1 : Hid (∀ w, _) := Lib.hid fun w => has_any (asks o s k x) x w hal
  rw [ha_asks o s k x hs hx.1 (by omega)] at HH1
  have hml := wi_lt 0 x (by decide)
  have HH2 : Hid (∀ w, _) := Lib.hid fun w => has_any (wi 0 x) x w hml
  rw [ha_wi 0 x hx.1 (by omega)] at HH2
  have HM : Hid (∀ w, Calls Tryd.prog 13 #[.agg #[.int .i64 x, .int .u32 0]] w fun e w' => e = .returned (.int .i64 (err (En.may ⟨x, 0⟩))) ∧ w.grownBy w' none) := Lib.hid fun w => may_any x 0 w (by decide)
  rw [may_yes (by omega)] at HM
  unfold err at HM
  have HK : Hid (∀ w, Calls Tryd.prog 17 #[.agg #[.int .i64 x, .int .u32 0]] w fun e w' => e = .returned (.int .u32 (wi 0 x : Nat)) ∧ w.grownBy w' none) := Lib.hid fun w => lknown_any x 0 w (by decide)
  have HWI : Hid (∀ w, Calls Tryd.prog 19 #[.int .u32 0, .int .i64 x] w fun e w' => e = .returned (.int .u32 (wi 0 x : Nat)) ∧ w = w') := Lib.hid fun w => with_any 0 x w (by decide)
  generalize asks o s k x = a at HA HH1
  generalize (if k = 1 then (4 : Int) else 5) = b at HA
  generalize wi 0 x = m at HH2 HK HWI
  have em : ((m : Int) == (m : Int)) = true := by simp
  have ex : (x == x) = true := by simp
  clear hT hs hask h1 h2 hal hml hx
  go_enter Tryd.func5, Tryd.ntmps5
  go_wp2_with (first
    | ((with_reducible refine load_en _ _ _ _ _ w.heap.size ?_ HE0.out ?_); (rfl))
    | (go_at_call 7; ((with_reducible refine (HA.out _ HT0.out).mono ?_); rintro e w5 ⟨rfl, hg5⟩; have HE5 := Lib.hid (row_grown HE0.out hg5); have HG5 := Lib.hid (grown_trans HG0.out hg5); clear hg5))
    | ((with_reducible refine load_en _ _ _ _ _ w.heap.size ?_ HE5.out ?_); (rfl))
    | (go_at_call 9; ((with_reducible refine (HP.out _).mono ?_); rintro e w6 ⟨rfl, hg6⟩; have HP6 : Hid ((w6.alloc (.cells #[.int .i64 x, .int .u32 0] 25)).heap[w6.heap.size]? = some (.cells #[.int .i64 x, .int .u32 0] 25 (0, 0))) := Lib.hid (heap_alloc_new _ _); have HG6 : Hid (w.grownBy (w6.alloc (.cells #[.int .i64 x, .int .u32 0] 25)) none) := Lib.hid (grown_alloc (grown_trans HG5.out hg6) _); clear hg6))
    | ((with_reducible refine store_enN x 0 _ _ _ _ ?_ ?_ ?_ ?_); (rfl); (rfl); (rfl))
    | ((with_reducible refine load_en _ _ _ _ _ w6.heap.size ?_ HP6.out ?_); (rfl))
    | (go_at_call 13; ((with_reducible refine (HM.out _).mono ?_); rintro e w7 ⟨rfl, hg7⟩; have HP7 := Lib.hid (row_grown HP6.out hg7); obtain ⟨c70, c71⟩ := cells2 HP7.out; have HG7 := Lib.hid (grown_trans HG6.out hg7); clear hg7))
    | (go_at_call 16; ((with_reducible refine (HH1.out _).mono ?_); rintro e w8 ⟨rfl, rfl⟩))
    | ((with_reducible refine load_en _ _ _ _ _ w6.heap.size ?_ HP7.out ?_); (rfl))
    | (go_at_call 17; ((with_reducible refine (HK.out _).mono ?_); rintro e w9 ⟨rfl, hg9⟩; have HP9 := Lib.hid (row_grown HP7.out hg9); obtain ⟨c90, c91⟩ := cells2 HP9.out; have HG9 := Lib.hid (grown_trans HG7.out hg9); clear hg9))
    | (go_at_call 16; ((with_reducible refine (HH2.out _).mono ?_); rintro e w8 ⟨rfl, rfl⟩))
    | ((with_reducible refine load_en _ _ _ _ _ w6.heap.size ?_ HP9.out ?_); (rfl))
    | (go_at_call 17; ((with_reducible refine (HK.out _).mono ?_); rintro e w10 ⟨rfl, hg10⟩; have HG10 := Lib.hid (grown_trans HG9.out hg10); clear hg10))
    | (go_at_call 19; ((with_reducible refine (HWI.out _).mono ?_); rintro e w8 ⟨rfl, rfl⟩))
    | (go_at_call 8; ((with_reducible refine (HW.out _).mono ?_); rintro e w11 ⟨rfl, hg11⟩; have HG11 := Lib.hid (grown_trans HG10.out hg11); clear hg11)))
  go_ret
  exact ⟨rfl, HG11.out⟩

theorem one_true (o : Int) (s : Nat) (k x : Int) (w : World) (hs : s < 4294967296) (hT : Tab w) : Calls Tryd.prog 5 #[.agg #[.int .i64 o, .int .u32 (s : Int)], .int .u8 k, .int .i64 x] w fun e w' => e = .returned (.bool true) ∧ w.grownBy w' none := by
  cases hask : ask ⟨o, s⟩ k x
  · exact one_bad o s k x w hs hT hask
  · rcases gets_three o s k x hask with ⟨t, h2, t1, t2 | ⟨t2, t3⟩⟩ | ⟨m, h2, hm, hh, hp⟩
    · exact one_alone o s k x w hs hT hask t h2 t1 t2
    · exact one_own o s k x w hs hT hask t h2 t1 t2 t3
    · exact one_shared o s k x w hs hT hask m h2 hm hh hp
end Go.Proofs.YtplebmafdfciaaaDoor.en
