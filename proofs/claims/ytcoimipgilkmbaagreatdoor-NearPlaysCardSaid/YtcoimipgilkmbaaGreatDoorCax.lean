/-
 What plan.Set and the document's Set answer: contracts. Condition: the table of bounds lies in its variable as the program's text has it.
 What victim's functions answer: contracts (as in stage 6, at this seat's numbers). No condition but the bounds that each theorem names.
 What victim's functions answer: contracts (as in stage 6, at this seat's numbers). No condition but the bounds that each theorem names.
 A line as cells, a row of lines in a block, what a store of a line makes of it: definitions and laws. No condition but the bounds that each theorem names.
-/
import Derived.Test.YtcoimipgilkmbaaGreatDoorTl
import Derived.Test.YtcoimipgilkmbaaGreatDoorPr
import Derived.Test.YtcoimipgilkmbaaGreatDoorNax
import Derived.Deep.MidRow
import Derived.Deep.WholeRow
import Derived.Deep.RegionLaw
import Derived.Deep.RegionHeld
namespace Go.Proofs.YtcoimipgilkmbaaGreatDoor.tt
set_option linter.unusedVariables false
set_option linter.unusedSimpArgs false
set_option maxRecDepth 1000000
set_option maxHeartbeats 16000000
open Go Go.ChangeShapes Go.WideShapes Go.ChangeAt Go.RowKit
theorem set_neg (c:Cfg) (b:Int) (w:World) (hT:Tab w) (hm:c.may) (h:b < 0):Calls Tryz.prog 121 #[.agg c.cells,.int .i64 b] w fun e w'=>e = .returned (.int .i64 0)∧w.grownBy w' none:=by
 have HG0:Hid (w.grownBy (w.alloc (.cells c.cells 27)) none):=qh (grown_alloc (grown_refl _ _) _)
 have HM:=qh (may_any c (w.alloc (.cells c.cells 27)) (hT.grown HG0.out))
 rw [yes_of hm] at HM
 clear hT hm
 unfold Cfg.cells at *
 go_enter Tryz.func121,Tryz.ntmps121
 go_wp2_with (first
  | (go_at_call 42;((with_reducible refine HM.out.mono ?_);rintro e w1 ⟨rfl,hg1⟩;have HG1:=qh hg1;clear hg1)))
 go_ret
 exact ⟨rfl,grown_trans HG0.out HG1.out⟩
theorem Cfg.may.sets {c:Cfg} (h:c.may):1 ≤ c.se∧c.se ≤ 16:=hb_bounds (h.1 1 (by omega))
theorem set_in (c:Cfg) (b:Int) (w:World) (hT:Tab w) (hm:c.may) (h:0 ≤ b):Calls Tryz.prog 121 #[.agg c.cells,.int .i64 b] w fun e w'=>e = .returned (.int .i64 (b % c.se))∧w.grownBy w' none:=by
 have HG0:Hid (w.grownBy (w.alloc (.cells c.cells 27)) none):=qh (grown_alloc (grown_refl _ _) _)
 have HM:=qh (may_any c (w.alloc (.cells c.cells 27)) (hT.grown HG0.out))
 rw [yes_of hm] at HM
 have HA:=qh (cfg_at w c)
 have hs:=hm.sets
 clear hT hm
 unfold Cfg.cells at *
 go_enter Tryz.func121,Tryz.ntmps121
 go_wp2_with (first
  | (go_at_call 42;((with_reducible refine HM.out.mono ?_);rintro e w1 ⟨rfl,hg1⟩;obtain ⟨c0,c1,c2,c3,c4,c5,c6,c7⟩:=HA.out.grown hg1;have HG1:=qh hg1;clear hg1)))
 go_ret
 exact ⟨rfl,grown_trans HG0.out HG1.out⟩
theorem rset_neg (c:Cfg) (b:Int) (w:World) (hm:c.may) (h:b < 0):Calls Tryz.prog 149 #[.agg c.cells,.int .i64 b] w fun e w'=>e = .returned (.int .i64 0)∧w.grownBy w' none:=by
 have HG0:Hid (w.grownBy (w.alloc (.cells c.cells 27)) none):=qh (grown_alloc (grown_refl _ _) _)
 have HM:=qh (rmay_any c (w.alloc (.cells c.cells 27)))
 rw [decide_eq_true hm] at HM
 clear hm
 unfold Cfg.cells at *
 go_enter Tryz.func149,Tryz.ntmps149
 go_wp2_with (first
  | (go_at_call 64;((with_reducible refine HM.out.mono ?_);rintro e w1 ⟨rfl,hg1⟩;have HG1:=qh hg1;clear hg1)))
 go_ret
 exact ⟨rfl,grown_trans HG0.out HG1.out⟩
theorem rset_in (c:Cfg) (b:Int) (w:World) (hm:c.may) (h:0 ≤ b):Calls Tryz.prog 149 #[.agg c.cells,.int .i64 b] w fun e w'=>e = .returned (.int .i64 (b % c.se))∧w.grownBy w' none:=by
 have HG0:Hid (w.grownBy (w.alloc (.cells c.cells 27)) none):=qh (grown_alloc (grown_refl _ _) _)
 have HM:=qh (rmay_any c (w.alloc (.cells c.cells 27)))
 rw [decide_eq_true hm] at HM
 have HA:=qh (cfg_at w c)
 have hs:=hm.sets
 clear hm
 unfold Cfg.cells at *
 go_enter Tryz.func149,Tryz.ntmps149
 go_wp2_with (first
  | (go_at_call 64;((with_reducible refine HM.out.mono ?_);rintro e w1 ⟨rfl,hg1⟩;obtain ⟨c0,c1,c2,c3,c4,c5,c6,c7⟩:=HA.out.grown hg1;have HG1:=qh hg1;clear hg1)))
 go_ret
 exact ⟨rfl,grown_trans HG0.out HG1.out⟩
end Go.Proofs.YtcoimipgilkmbaaGreatDoor.tt
namespace Go.Proofs.YtcoimipgilkmbaaGreatDoor.kk
set_option linter.unusedVariables false
set_option linter.unusedSimpArgs false
set_option maxRecDepth 1000000
set_option maxHeartbeats 16000000
open Go Go.ChangeShapes Go.WideShapes Go.ChangeAt Go.RowKit
open Go.Proofs.YtcoimipgilkmbaaGreatDoor.tt (hb ret_i64)
theorem grown_drewN (w:World) (n:Nat) (own:Option Nat):w.grownBy (w.drewN n) own:=by
 exact ⟨rfl,rfl,rfl,Nat.le_refl _,fun _ _ _=>rfl⟩
def bt (m b:Nat):Nat:=m / 2 ^ b % 2
def away (m b u:Nat):Nat:=m - bt m b * 2 ^ b + (1 - u) * 2 ^ b
theorem bt_lt (m b:Nat):bt m b < 2:=Nat.mod_lt _ (by decide)
theorem away_bits:∀ (m:Fin 256) (b:Fin 3) (u:Fin 2),(m.val &&& (255 - 2 ^ b.val)) ||| ((1 - u.val) * 2 ^ b.val)=away m.val b.val u.val∧away m.val b.val u.val < 256:=by decide +kernel
theorem away_lt (m b u:Nat) (hm:m < 256) (hb:b < 3) (hu:u < 2):away m b u < 256:=(away_bits ⟨m,hm⟩ ⟨b,hb⟩ ⟨u,hu⟩).2
theorem away_int (m b u:Nat) (hm:m < 256) (hb:b < 3) (hu:u < 2):bits .or .u8 (bits .andNot .u8 (m:Int) ((2 ^ b:Nat):Int)) (((1 - u) * 2 ^ b:Nat):Int)=((away m b u:Nat):Int):=by
 have h2:2 ^ b < 256:=Nat.lt_of_lt_of_le (Nat.pow_lt_pow_right (by decide) hb) (by decide)
 have h3:(1 - u) * 2 ^ b < 256:=Nat.lt_of_le_of_lt (Nat.mul_le_mul_right _ (show 1 - u ≤ 1 by omega)) (by omega)
 rw [u8_andNot_nat m _ hm h2,u8_or_nat _ _ (Nat.lt_of_le_of_lt Nat.and_le_left hm) h3,(away_bits ⟨m,hm⟩ ⟨b,hb⟩ ⟨u,hu⟩).1]
theorem ret_u8 {a b:Int} (h:a=b):Ending.returned (.int .u8 a)=Ending.returned (.int .u8 b):=by rw [h]
theorem may_yes (n:Int) (w:World) (h:n=1 ∨ n=2 ∨ n=4):Calls Tryz.prog 160 #[.int .i64 n] w fun e w'=>e = .returned (.bool true)∧w=w':=by
 rcases h with rfl | rfl | rfl <;> (go_enter Tryz.func160,Tryz.ntmps160;go_wp2;go_ret;exact ⟨rfl,rfl⟩)
theorem bitIn_any (n:Int) (w:World) (h:n=0 ∨ n=1):Calls Tryz.prog 162 #[.int .i64 n] w fun e w'=>e = .returned (.int .i64 (1 + n))∧w=w':=by
 rcases h with rfl | rfl <;> (go_enter Tryz.func162,Tryz.ntmps162;go_wp2;go_ret;exact ⟨rfl,rfl⟩)
theorem and1 (a:Int) (h0:0 ≤ a) (h1:a < 256):bits .and .u8 a 1=a % 2:=by
 have:=u8_and_nat a.toNat 1 (by omega) (by omega)
 rw [Int.toNat_of_nonneg h0] at this
 rw [show (1:Int)=((1:Nat):Int) from rfl,this,show (1:Nat)=2 ^ 1 - 1 by decide,Nat.and_two_pow_sub_one_eq_mod]
 omega
theorem w64 (n:Int) (h:-9223372036854775808 ≤ n) (k:n ≤ 9223372036854775807):wrap64 n=n:=by unfold wrap64;omega
theorem points0 (m:Nat) (w:World) (hm:m < 256):Calls Tryz.prog 178 #[.int .u8 (m:Int),.int .i64 0] w fun e w'=>e = .returned (.int .i64 (bt m 0:Nat))∧w=w':=by
 have H:=qh (and1 (m:Int) (by omega) (by omega))
 go_enter Tryz.func178,Tryz.ntmps178
 go_wp2
 go_ret
 refine ⟨ret_i64 ?_,rfl⟩
 rw [H.out,w64 _ (by omega) (by omega)]
 unfold bt;simp
theorem points1 (m:Nat) (w:World) (hm:m < 256):Calls Tryz.prog 178 #[.int .u8 (m:Int),.int .i64 1] w fun e w'=>e = .returned (.int .i64 (bt m 1:Nat))∧w=w':=by
 have H:=qh (and1 ((m:Int) / 2) (by omega) (by omega))
 go_enter Tryz.func178,Tryz.ntmps178
 go_wp2
 go_ret
 refine ⟨ret_i64 ?_,rfl⟩
 rw [H.out,w64 _ (by omega) (by omega)]
 unfold bt;simp
theorem points2 (m:Nat) (w:World) (hm:m < 256):Calls Tryz.prog 178 #[.int .u8 (m:Int),.int .i64 2] w fun e w'=>e = .returned (.int .i64 (bt m 2:Nat))∧w=w':=by
 have H:=qh (and1 ((m:Int) / 4) (by omega) (by omega))
 go_enter Tryz.func178,Tryz.ntmps178
 go_wp2
 go_ret
 refine ⟨ret_i64 ?_,rfl⟩
 rw [H.out,w64 _ (by omega) (by omega)]
 unfold bt;simp
theorem away00 (m:Nat) (w:World) (hm:m < 256):Calls Tryz.prog 161 #[.int .u8 (m:Int),.int .i64 0,.int .i64 0] w fun e w'=>e = .returned (.int .u8 (away m 0 0:Nat))∧∃ n,w'=w.drewN n:=by
 go_enter Tryz.func161,Tryz.ntmps161
 go_wp2_with fail
 go_quiet (fail)
 go_wp2_with fail
 go_ret
 exact ⟨ret_u8 (away_int m 0 0 hm (by decide) (by decide)),nq,rfl⟩
theorem away01 (m:Nat) (w:World) (hm:m < 256):Calls Tryz.prog 161 #[.int .u8 (m:Int),.int .i64 0,.int .i64 1] w fun e w'=>e = .returned (.int .u8 (away m 0 1:Nat))∧∃ n,w'=w.drewN n:=by
 go_enter Tryz.func161,Tryz.ntmps161
 go_wp2_with fail
 go_quiet (fail)
 go_wp2_with fail
 go_ret
 exact ⟨ret_u8 (away_int m 0 1 hm (by decide) (by decide)),nq,rfl⟩
theorem away10 (m:Nat) (w:World) (hm:m < 256):Calls Tryz.prog 161 #[.int .u8 (m:Int),.int .i64 1,.int .i64 0] w fun e w'=>e = .returned (.int .u8 (away m 1 0:Nat))∧∃ n,w'=w.drewN n:=by
 go_enter Tryz.func161,Tryz.ntmps161
 go_wp2_with fail
 go_quiet (fail)
 go_wp2_with fail
 go_ret
 exact ⟨ret_u8 (away_int m 1 0 hm (by decide) (by decide)),nq,rfl⟩
theorem away11 (m:Nat) (w:World) (hm:m < 256):Calls Tryz.prog 161 #[.int .u8 (m:Int),.int .i64 1,.int .i64 1] w fun e w'=>e = .returned (.int .u8 (away m 1 1:Nat))∧∃ n,w'=w.drewN n:=by
 go_enter Tryz.func161,Tryz.ntmps161
 go_wp2_with fail
 go_quiet (fail)
 go_wp2_with fail
 go_ret
 exact ⟨ret_u8 (away_int m 1 1 hm (by decide) (by decide)),nq,rfl⟩
theorem away20 (m:Nat) (w:World) (hm:m < 256):Calls Tryz.prog 161 #[.int .u8 (m:Int),.int .i64 2,.int .i64 0] w fun e w'=>e = .returned (.int .u8 (away m 2 0:Nat))∧∃ n,w'=w.drewN n:=by
 go_enter Tryz.func161,Tryz.ntmps161
 go_wp2_with fail
 go_quiet (fail)
 go_wp2_with fail
 go_ret
 exact ⟨ret_u8 (away_int m 2 0 hm (by decide) (by decide)),nq,rfl⟩
theorem away21 (m:Nat) (w:World) (hm:m < 256):Calls Tryz.prog 161 #[.int .u8 (m:Int),.int .i64 2,.int .i64 1] w fun e w'=>e = .returned (.int .u8 (away m 2 1:Nat))∧∃ n,w'=w.drewN n:=by
 go_enter Tryz.func161,Tryz.ntmps161
 go_wp2_with fail
 go_quiet (fail)
 go_wp2_with fail
 go_ret
 exact ⟨ret_u8 (away_int m 2 1 hm (by decide) (by decide)),nq,rfl⟩
end Go.Proofs.YtcoimipgilkmbaaGreatDoor.kk
namespace Go.Proofs.YtcoimipgilkmbaaGreatDoor.kk
set_option linter.unusedVariables false
set_option linter.unusedSimpArgs false
set_option maxRecDepth 1000000
set_option maxHeartbeats 16000000
open Go Go.ChangeShapes Go.WideShapes Go.ChangeAt Go.RowKit
open Go.Proofs.YtcoimipgilkmbaaGreatDoor.tt (hb)
def us (m ways way:Nat):Nat:=
 if ways=4 then away (away m (1 + way / 2) (way % 2)) 0 (way / 2) else if ways=2 then away m 0 way else m
def vc (m ways:Nat):Nat:=
 if ways=4 then bt m 0 * 2 + bt m (1 + bt m 0) else if ways=2 then bt m 0 else 0
theorem ret_pair {a b x:Int} (h:a=b):Ending.returned (.tuple #[.int .i64 a,.int .i64 x])=Ending.returned (.tuple #[.int .i64 b,.int .i64 x]):=by rw [h]
def good (n:Int):Prop:=n=1 ∨ n=2 ∨ n=4
instance (n:Int):Decidable (good n):=by unfold good;exact inferInstance
theorem us_lt (m ways way:Nat) (hm:m < 256) (hw:way < ways) (h4:ways ≤ 4):us m ways way < 256:=by
 unfold us
 split
 ·exact away_lt _ _ _ (away_lt _ _ _ hm (by omega) (by omega)) (by omega) (by omega)
 ·split
  ·exact away_lt _ _ _ hm (by omega) (by omega)
  ·exact hm
theorem vc_lt (m ways:Nat) (h:ways=1 ∨ ways=2 ∨ ways=4):vc m ways < ways:=by
 have h0:=bt_lt m 0
 have h1:=bt_lt m (1 + bt m 0)
 unfold vc
 rcases h with rfl | rfl | rfl
 ·simp
 ·simpa using h0
 ·simp;omega
theorem use1 (m:Nat) (w:World) (hm:m < 256):Calls Tryz.prog 124 #[.int .u8 (m:Int),.int .i64 1,.int .i64 0] w fun e w'=>e = .returned (.tuple #[.int .u8 (us m 1 0:Nat),.int .i64 0])∧∃ n,w'=w.drewN n:=by
 have hq:=qh (may_yes 1 w (by decide))
 go_enter Tryz.func124,Tryz.ntmps124
 go_wp2_with (go_at_call 160;((with_reducible refine hq.out.mono ?_);rintro e w' ⟨rfl,rfl⟩))
 go_ret2
 exact ⟨rfl,0,rfl⟩
theorem use20 (m:Nat) (w:World) (hm:m < 256):Calls Tryz.prog 124 #[.int .u8 (m:Int),.int .i64 2,.int .i64 0] w fun e w'=>e = .returned (.tuple #[.int .u8 (us m 2 0:Nat),.int .i64 0])∧∃ n,w'=w.drewN n:=by
 have hq:=qh (may_yes 2 w (by decide))
 have ha:=qh (away00 m w hm)
 go_enter Tryz.func124,Tryz.ntmps124
 go_wp2_with (first
  | (go_at_call 160;((with_reducible refine hq.out.mono ?_);rintro e w' ⟨rfl,rfl⟩))
  | (go_at_call 161;((with_reducible refine ha.out.mono ?_);rintro e w' ⟨rfl,n1,rfl⟩)))
 go_ret2
 exact ⟨rfl,n1,rfl⟩
theorem use21 (m:Nat) (w:World) (hm:m < 256):Calls Tryz.prog 124 #[.int .u8 (m:Int),.int .i64 2,.int .i64 1] w fun e w'=>e = .returned (.tuple #[.int .u8 (us m 2 1:Nat),.int .i64 0])∧∃ n,w'=w.drewN n:=by
 have hq:=qh (may_yes 2 w (by decide))
 have ha:=qh (away01 m w hm)
 go_enter Tryz.func124,Tryz.ntmps124
 go_wp2_with (first
  | (go_at_call 160;((with_reducible refine hq.out.mono ?_);rintro e w' ⟨rfl,rfl⟩))
  | (go_at_call 161;((with_reducible refine ha.out.mono ?_);rintro e w' ⟨rfl,n1,rfl⟩)))
 go_ret2
 exact ⟨rfl,n1,rfl⟩
theorem use40 (m:Nat) (w:World) (hm:m < 256):Calls Tryz.prog 124 #[.int .u8 (m:Int),.int .i64 4,.int .i64 0] w fun e w'=>e = .returned (.tuple #[.int .u8 (us m 4 0:Nat),.int .i64 0])∧∃ n,w'=w.drewN n:=by
 have hq:=qh (may_yes 4 w (by decide))
 have hb:=qh (bitIn_any 0 w (by decide))
 have ha:=qh (away10 m w hm)
 have hc:Hid (∀ w,_):=qh (fun w=>away00 (away m 1 0) w (away_lt _ _ _ hm (by decide) (by decide)))
 go_enter Tryz.func124,Tryz.ntmps124
 go_wp2_with (first
  | (go_at_call 160;((with_reducible refine hq.out.mono ?_);rintro e w' ⟨rfl,rfl⟩))
  | (go_at_call 162;((with_reducible refine hb.out.mono ?_);rintro e w' ⟨rfl,rfl⟩))
  | (go_at_call 161;((with_reducible refine ha.out.mono ?_);rintro e w' ⟨rfl,n1,rfl⟩))
  | (go_at_call 161;((with_reducible refine (hc.out _).mono ?_);rintro e w' ⟨rfl,n2,rfl⟩)))
 go_ret2
 exact ⟨rfl,n1 + n2,rfl⟩
theorem use41 (m:Nat) (w:World) (hm:m < 256):Calls Tryz.prog 124 #[.int .u8 (m:Int),.int .i64 4,.int .i64 1] w fun e w'=>e = .returned (.tuple #[.int .u8 (us m 4 1:Nat),.int .i64 0])∧∃ n,w'=w.drewN n:=by
 have hq:=qh (may_yes 4 w (by decide))
 have hb:=qh (bitIn_any 0 w (by decide))
 have ha:=qh (away11 m w hm)
 have hc:Hid (∀ w,_):=qh (fun w=>away00 (away m 1 1) w (away_lt _ _ _ hm (by decide) (by decide)))
 go_enter Tryz.func124,Tryz.ntmps124
 go_wp2_with (first
  | (go_at_call 160;((with_reducible refine hq.out.mono ?_);rintro e w' ⟨rfl,rfl⟩))
  | (go_at_call 162;((with_reducible refine hb.out.mono ?_);rintro e w' ⟨rfl,rfl⟩))
  | (go_at_call 161;((with_reducible refine ha.out.mono ?_);rintro e w' ⟨rfl,n1,rfl⟩))
  | (go_at_call 161;((with_reducible refine (hc.out _).mono ?_);rintro e w' ⟨rfl,n2,rfl⟩)))
 go_ret2
 exact ⟨rfl,n1 + n2,rfl⟩
theorem use42 (m:Nat) (w:World) (hm:m < 256):Calls Tryz.prog 124 #[.int .u8 (m:Int),.int .i64 4,.int .i64 2] w fun e w'=>e = .returned (.tuple #[.int .u8 (us m 4 2:Nat),.int .i64 0])∧∃ n,w'=w.drewN n:=by
 have hq:=qh (may_yes 4 w (by decide))
 have hb:=qh (bitIn_any 1 w (by decide))
 have ha:=qh (away20 m w hm)
 have hc:Hid (∀ w,_):=qh (fun w=>away01 (away m 2 0) w (away_lt _ _ _ hm (by decide) (by decide)))
 go_enter Tryz.func124,Tryz.ntmps124
 go_wp2_with (first
  | (go_at_call 160;((with_reducible refine hq.out.mono ?_);rintro e w' ⟨rfl,rfl⟩))
  | (go_at_call 162;((with_reducible refine hb.out.mono ?_);rintro e w' ⟨rfl,rfl⟩))
  | (go_at_call 161;((with_reducible refine ha.out.mono ?_);rintro e w' ⟨rfl,n1,rfl⟩))
  | (go_at_call 161;((with_reducible refine (hc.out _).mono ?_);rintro e w' ⟨rfl,n2,rfl⟩)))
 go_ret2
 exact ⟨rfl,n1 + n2,rfl⟩
theorem use43 (m:Nat) (w:World) (hm:m < 256):Calls Tryz.prog 124 #[.int .u8 (m:Int),.int .i64 4,.int .i64 3] w fun e w'=>e = .returned (.tuple #[.int .u8 (us m 4 3:Nat),.int .i64 0])∧∃ n,w'=w.drewN n:=by
 have hq:=qh (may_yes 4 w (by decide))
 have hb:=qh (bitIn_any 1 w (by decide))
 have ha:=qh (away21 m w hm)
 have hc:Hid (∀ w,_):=qh (fun w=>away01 (away m 2 1) w (away_lt _ _ _ hm (by decide) (by decide)))
 go_enter Tryz.func124,Tryz.ntmps124
 go_wp2_with (first
  | (go_at_call 160;((with_reducible refine hq.out.mono ?_);rintro e w' ⟨rfl,rfl⟩))
  | (go_at_call 162;((with_reducible refine hb.out.mono ?_);rintro e w' ⟨rfl,rfl⟩))
  | (go_at_call 161;((with_reducible refine ha.out.mono ?_);rintro e w' ⟨rfl,n1,rfl⟩))
  | (go_at_call 161;((with_reducible refine (hc.out _).mono ?_);rintro e w' ⟨rfl,n2,rfl⟩)))
 go_ret2
 exact ⟨rfl,n1 + n2,rfl⟩
theorem use_in (m ways way:Nat) (w:World) (hm:m < 256) (hg:good ways) (hw:way < ways):Calls Tryz.prog 124 #[.int .u8 (m:Int),.int .i64 (ways:Int),.int .i64 (way:Int)] w fun e w'=>e = .returned (.tuple #[.int .u8 (us m ways way:Nat),.int .i64 0])∧∃ n,w'=w.drewN n:=by
 have hg':ways=1 ∨ ways=2 ∨ ways=4:=by unfold good at hg;omega
 rcases hg' with rfl | rfl | rfl
 ·obtain rfl:way=0:=by omega
  exact use1 m w hm
 ·obtain rfl | rfl:way=0 ∨ way=1:=by omega
  ·exact use20 m w hm
  ·exact use21 m w hm
 ·obtain rfl | rfl | rfl | rfl:way=0 ∨ way=1 ∨ way=2 ∨ way=3:=by omega
  ·exact use40 m w hm
  ·exact use41 m w hm
  ·exact use42 m w hm
  ·exact use43 m w hm
theorem victim1 (m:Nat) (w:World) (hm:m < 256):Calls Tryz.prog 164 #[.int .u8 (m:Int),.int .i64 1] w fun e w'=>e = .returned (.tuple #[.int .i64 (vc m 1:Nat),.int .i64 0])∧w=w':=by
 have hq:=qh (may_yes 1 w (by decide))
 have hp:=qh (points0 m w hm)
 go_enter Tryz.func164,Tryz.ntmps164
 go_wp2_with (first
  | (go_at_call 160;((with_reducible refine hq.out.mono ?_);rintro e w' ⟨rfl,rfl⟩))
  | (go_at_call 178;((with_reducible refine hp.out.mono ?_);rintro e w' ⟨rfl,rfl⟩)))
 go_ret2
 exact ⟨rfl,rfl⟩
theorem victim2 (m:Nat) (w:World) (hm:m < 256):Calls Tryz.prog 164 #[.int .u8 (m:Int),.int .i64 2] w fun e w'=>e = .returned (.tuple #[.int .i64 (vc m 2:Nat),.int .i64 0])∧w=w':=by
 have hq:=qh (may_yes 2 w (by decide))
 have hp:=qh (points0 m w hm)
 have h0:=bt_lt m 0
 go_enter Tryz.func164,Tryz.ntmps164
 go_wp2_with (first
  | (go_at_call 160;((with_reducible refine hq.out.mono ?_);rintro e w' ⟨rfl,rfl⟩))
  | (go_at_call 178;((with_reducible refine hp.out.mono ?_);rintro e w' ⟨rfl,rfl⟩)))
 go_ret2
 exact ⟨rfl,rfl⟩
theorem victim4 (m:Nat) (w:World) (hm:m < 256):Calls Tryz.prog 164 #[.int .u8 (m:Int),.int .i64 4] w fun e w'=>e = .returned (.tuple #[.int .i64 (vc m 4:Nat),.int .i64 0])∧w=w':=by
 have hq:=qh (may_yes 4 w (by decide))
 have hp:=qh (points0 m w hm)
 have h0:=bt_lt m 0
 obtain h | h:bt m 0=0 ∨ bt m 0=1:=by omega
 ·have hb:=qh (bitIn_any 0 w (by decide))
  have hp1:=qh (points1 m w hm)
  have hv:Hid _:=qh (show vc m 4=bt m 1 by unfold vc;rw [h];simp)
  have hl:=bt_lt m 1
  rw [h] at hp
  clear h h0
  go_enter Tryz.func164,Tryz.ntmps164
  go_wp2_with (first
   | (go_at_call 160;((with_reducible refine hq.out.mono ?_);rintro e w' ⟨rfl,rfl⟩))
   | (go_at_call 162;((with_reducible refine hb.out.mono ?_);rintro e w' ⟨rfl,rfl⟩))
   | (go_at_call 178;((with_reducible refine hp.out.mono ?_);rintro e w' ⟨rfl,rfl⟩))
   | (go_at_call 178;((with_reducible refine hp1.out.mono ?_);rintro e w' ⟨rfl,rfl⟩)))
  go_ret2
  refine ⟨ret_pair ?_,rfl⟩
  rw [hv.out]
 ·have hb:=qh (bitIn_any 1 w (by decide))
  have hp1:=qh (points2 m w hm)
  have hv:Hid _:=qh (show vc m 4=2 + bt m 2 by unfold vc;rw [h];simp)
  have hl:=bt_lt m 2
  rw [h] at hp
  clear h h0
  go_enter Tryz.func164,Tryz.ntmps164
  go_wp2_with (first
   | (go_at_call 160;((with_reducible refine hq.out.mono ?_);rintro e w' ⟨rfl,rfl⟩))
   | (go_at_call 162;((with_reducible refine hb.out.mono ?_);rintro e w' ⟨rfl,rfl⟩))
   | (go_at_call 178;((with_reducible refine hp.out.mono ?_);rintro e w' ⟨rfl,rfl⟩))
   | (go_at_call 178;((with_reducible refine hp1.out.mono ?_);rintro e w' ⟨rfl,rfl⟩)))
  go_ret2
  refine ⟨ret_pair ?_,rfl⟩
  rw [hv.out]
  show (_:Int)=_
  simp
  omega
theorem victim_in (m ways:Nat) (w:World) (hm:m < 256) (hg:good ways):Calls Tryz.prog 164 #[.int .u8 (m:Int),.int .i64 (ways:Int)] w fun e w'=>e = .returned (.tuple #[.int .i64 (vc m ways:Nat),.int .i64 0])∧w=w':=by
 have hg':ways=1 ∨ ways=2 ∨ ways=4:=by unfold good at hg;omega
 rcases hg' with rfl | rfl | rfl
 ·exact victim1 m w hm
 ·exact victim2 m w hm
 ·exact victim4 m w hm
end Go.Proofs.YtcoimipgilkmbaaGreatDoor.kk
namespace Go.Proofs.YtcoimipgilkmbaaGreatDoor.kk
set_option linter.unusedVariables false
set_option linter.unusedSimpArgs false
set_option maxRecDepth 1000000
set_option maxHeartbeats 16000000
open Go Go.ChangeShapes Go.WideShapes Go.ChangeAt Go.RowKit
open Go.Proofs.YtcoimipgilkmbaaGreatDoor.tt (hb U zd row)
structure Ln where
 b:Int
 s:Int
 d:List Int
 h:d.length=16
deriving DecidableEq
def zl:Ln:=⟨0,0,zd,rfl⟩
instance:Inhabited Ln:=⟨zl⟩
theorem Ln.ext {x y:Ln} (h1:x.b=y.b) (h2:x.s=y.s) (h3:x.d=y.d):x=y:=by
 obtain ⟨_,_,_,_⟩:=x;obtain ⟨_,_,_,_⟩:=y;simp at h1 h2 h3;subst h1 h2 h3;rfl
def ln (l:Ln):List Value:= .int .i64 l.b :: .int .u8 l.s :: l.d.map U
def la (l:Ln):Array Value:=(ln l).toArray
theorem ln_len (l:Ln):(ln l).length=18:=by simp [ln,l.h]
theorem la_size (l:Ln):(la l).size=18:=by simp [la,ln_len]
theorem ln_one (l:Ln):∀ v ∈ ln l,v.oneCell'=true:=by
 intro v hv
 simp [ln,U] at hv
 rcases hv with rfl | rfl | ⟨x,_,rfl⟩ <;> rfl
theorem la_one (l:Ln):(la l).all (·.oneCell')=true:=all_oneCell_toArray (ln_one l)
theorem ln0 (l:Ln):(ln l)[0]?=some (.int .i64 l.b):=rfl
theorem ln1 (l:Ln):(ln l)[1]?=some (.int .u8 l.s):=rfl
theorem info36:(Tryz.prog.info? 50).map (·.size)=some 18:=by kernel_rfl
theorem info36' (l:Ln):(Tryz.prog.info? 50).map (·.size)=some (ln l).length:=by rw [ln_len];exact info36
theorem info36a (l:Ln):(Tryz.prog.info? 50).map (·.size)=some (la l).size:=by rw [la_size];exact info36
theorem zl_la:la zl=#[.int .i64 0,.int .u8 0,.int .u32 0,.int .u32 0,.int .u32 0,.int .u32 0,.int .u32 0,.int .u32 0,.int .u32 0,.int .u32 0,.int .u32 0,.int .u32 0,.int .u32 0,.int .u32 0,.int .u32 0,.int .u32 0,.int .u32 0,.int .u32 0]:=rfl
theorem tyne {w:World} {k q:Nat} {c1 c2:Array Value} {t1 t2:TypeId} {f1 f2:Nat × Nat} (h1:w.heap[k]?=some (.cells c1 t1 f1)) (h2:w.heap[q]?=some (.cells c2 t2 f2)) (h:t1 ≠ t2):k ≠ q:=fun e=>by
 subst e;rw [h1] at h2;cases h2;exact h rfl
theorem add_lit (g off j:Nat):(⟨g,off,none⟩:Addr).add j=⟨g,off + j,none⟩:=by unfold Addr.add;split <;> simp_all
theorem lt_of {w:World} {k:Nat} {o:Obj} (h:w.heap[k]?=some o):k < w.heap.size:=(Array.getElem?_eq_some_iff.1 h).1
theorem range_grown {w w':World} {g o:Nat} {xs:List Value} (h:w.rangeAt g o xs) {own:Option Nat} (hg:w.grownBy w' own) (hn:some g ≠ own):w'.rangeAt g o xs:=fun j v hv=>hg.cell (h j v hv) hn
theorem range_of {w:World} {g:Nat} {l:Ln} {t:TypeId} (h:w.heap[g]?=some (.cells (la l) t (0,0))):w.rangeAt g 0 (ln l):=fun j v hv=>by
 rw [Nat.zero_add,cell_of_row _ _ j _ _ _ h]
 simpa [la] using hv
theorem range_same {w w':World} {g o:Nat} {xs:List Value} (h:w.rangeAt g o xs) (hb:w'.heap[g]?=w.heap[g]?):w'.rangeAt g o xs:=fun j v hv=>by
 rw [World.cell?_of_block (w:=w) (w':=w') (a:=⟨g,o + j,none⟩) hb];exact h j v hv
structure RowAt (w:World) (g:Nat) (ls:List Ln):Prop where
 blk:∃ cur,w.heap[g]?=some (.cells cur 50 (0,0))
 at_:∀ (j:Nat) l,ls[j]?=some l→w.rangeAt g (j * 18) (ln l)
theorem RowAt.lt {w:World} {g:Nat} {ls:List Ln} (h:RowAt w g ls):g < w.heap.size:=by
 obtain ⟨c,hc⟩:=h.blk;exact lt_of hc
theorem RowAt.same {w w':World} {g:Nat} {ls:List Ln} (h:RowAt w g ls) (hb:w'.heap[g]?=w.heap[g]?):RowAt w' g ls:=
 ⟨by obtain ⟨c,hc⟩:=h.blk;exact ⟨c,hb.trans hc⟩,fun j l hl=>range_same (h.at_ j l hl) hb⟩
theorem RowAt.grown {w w':World} {g:Nat} {ls:List Ln} (h:RowAt w g ls) {own:Option Nat} (hg:w.grownBy w' own) (hn:some g ≠ own):RowAt w' g ls:=h.same (hg.block g h.lt hn)
theorem RowAt.there {w:World} {g:Nat} {ls:List Ln} (h:RowAt w g ls) {j:Nat} (hj:j < ls.length):w.there g (j * 18) 18:=fun i hi=>by
 obtain ⟨c,hc⟩:=h.blk
 obtain ⟨l,hl⟩:∃ l,ls[j]?=some l:=⟨_,List.getElem?_eq_getElem hj⟩
 have:=h.at_ j l hl i _ (List.getElem?_eq_getElem (by rw [ln_len];exact hi))
 exact ⟨by rw [this];rfl,frozen_of_row _ _ _ _ _ hc⟩
theorem setCells_rest (b:Nat):∀ (vs:List Value) (o:Nat) (w:World),(w.setCells b o vs).os=w.os∧(w.setCells b o vs).tape=w.tape∧(w.setCells b o vs).output=w.output∧(w.setCells b o vs).heap.size=w.heap.size
 | [],o,w=>⟨rfl,rfl,rfl,rfl⟩
 | v :: r,o,w=>by
  obtain ⟨h1,h2,h3,h4⟩:=setCells_rest b r (o + 1) (w.setCell ⟨b,o,none⟩ v)
  exact ⟨h1,h2,h3,by rw [World.setCells,h4];simp [World.setCell]⟩
theorem heap_setCell_other' (w:World) (a:Addr) (v:Value) (k:Nat) (hk:k ≠ a.block):(w.setCell a v).heap[k]?=w.heap[k]?:=Below.heap_setCell _ _ _ _ hk
theorem heap_setCells_other (b:Nat) (k:Nat) (hk:k ≠ b):∀ (vs:List Value) (o:Nat) (w:World),(w.setCells b o vs).heap[k]?=w.heap[k]?
 | [],_,_=>rfl
 | v :: r,o,w=>by
  rw [World.setCells,heap_setCells_other b k hk r (o + 1)]
  exact Below.heap_setCell _ _ _ _ (by simpa using hk)
theorem blk_setCell {w:World} {b o:Nat} {t:TypeId} {cur:Array Value} (v:Value) (h:w.heap[b]?=some (.cells cur t (0,0))):(w.setCell ⟨b,o,none⟩ v).heap[b]?=some (.cells (cur.set! o v) t (0,0)):=by
 obtain ⟨hlt,hk⟩:=Array.getElem?_eq_some_iff.1 h
 show (w.heap.modify b _)[b]?=_
 rw [Array.getElem?_eq_getElem (by rw [Array.size_modify];exact hlt),Array.getElem_modify_self,hk]
 simp [Array.set!_eq_setIfInBounds]
theorem blk_setCells {t:TypeId} {b:Nat}:∀ (vs:List Value) (o:Nat) (w:World),(∃ cur,w.heap[b]?=some (.cells cur t (0,0)))→∃ cur,(w.setCells b o vs).heap[b]?=some (.cells cur t (0,0))
 | [],_,_,h=>h
 | v :: r,o,w,⟨cur,h⟩=>by
  rw [World.setCells]
  exact blk_setCells r (o + 1) _ ⟨_,blk_setCell v h⟩
theorem grown_setCells (w:World) (b o:Nat) (vs:List Value):w.grownBy (w.setCells b o vs) (some b):=by
 obtain ⟨h1,h2,h3,h4⟩:=setCells_rest b vs o w
 exact ⟨h1,h2,h3,by omega,fun k _ hk=>heap_setCells_other b k (fun e=>hk (by rw [e])) _ _ _⟩
theorem grown_setCell (w:World) (b o:Nat) (v:Value):w.grownBy (w.setCell ⟨b,o,none⟩ v) (some b):=grown_setCells w b o [v]
theorem RowAt.store {w:World} {g:Nat} {ls:List Ln} (h:RowAt w g ls) (j:Nat) (hj:j < ls.length) (l:Ln):RowAt (w.setCells g (j * 18) (ln l)) g (ls.set j l):=by
 have ht:=h.there hj
 refine ⟨blk_setCells _ _ _ h.blk,fun i x hx=>?_⟩
 by_cases hij:i=j
 ·subst hij
  rw [List.getElem?_set_self (by simpa using hj)] at hx
  cases hx
  exact World.rangeAt_setCells_same w g (i * 18) (ln l) (by rw [ln_len];exact ht)
 ·rw [List.getElem?_set_ne (fun e=>hij e.symm)] at hx
  refine World.rangeAt_setCells_apart (h.at_ i x hx) g (j * 18) (ln l) (.inr ?_)
  rw [ln_len,ln_len]
  omega
theorem RowAt.cell {w:World} {g:Nat} {ls:List Ln} (h:RowAt w g ls) (j:Nat) (hj:j < ls.length) (l l':Ln) (hl:ls[j]?=some l) (k:Nat) (hk:k < 18) (v:Value) (hv:ln l'=(ln l).set k v):RowAt (w.setCell ⟨g,j * 18 + k,none⟩ v) g (ls.set j l'):=by
 have ht:=h.there hj
 have hc:=World.cell?_setCells_in g [v] (j * 18 + k) w (fun i hi=>by simp at hi;subst hi;exact (ht k hk).1) 0 (by simp)
 refine ⟨blk_setCells [v] (j * 18 + k) w h.blk,fun i x hx=>?_⟩
 by_cases hij:i=j
 ·subst hij
  rw [List.getElem?_set_self (by simpa using hj)] at hx
  cases hx
  intro m u hu
  rw [hv] at hu
  by_cases hmk:k=m
  ·subst hmk
   rw [List.getElem?_set_self (by rw [ln_len];exact hk)] at hu
   cases hu
   exact hc
  ·rw [List.getElem?_set_ne hmk] at hu
   have h0:=h.at_ i l hl m u hu
   have h1:=World.rangeAt_setCells_apart (w:=w) (b':=g) (o':=i * 18 + m) (cs:=[u]) (fun j v hv=>by
    match j,hv with
    | 0,hv=>simp at hv;subst hv;exact h0
    | j + 1,hv=>simp at hv) g (i * 18 + k) [v] (.inr (by simp;omega))
   exact h1 0 u rfl
 ·rw [List.getElem?_set_ne (fun e=>hij e.symm)] at hx
  refine World.rangeAt_setCells_apart (h.at_ i x hx) g (j * 18 + k) [v] (.inr ?_)
  rw [ln_len];simp
  omega
section
variable {w:World} {ops:Array Oper} {rest:List Oper} {a:Act} {Q:Exit→Act→World→Prop} {dst:Option Tmp} {ty:TypeId} {pos:String} {after:Array Edge}
theorem load_ln (l:Ln) (x:Tmp) (g o:Nat) (hx:a.eval (.tmp x) = .pointer (some ⟨g,o,none⟩)) (hg:w.rangeAt g o (ln l))
  (h:wpList Tryz.prog ops Q rest (a.put dst (.agg (la l))) w):wpList Tryz.prog ops Q (⟨dst,.load 50 (.tmp x),ty,pos,after,none⟩ :: rest) a w:=
 wpList_load_mid rfl 50 (.tmp x) rfl g o hx (ln l) _ hg Tryz.underlying50 rfl (info36' l) h
theorem store_ln (l:Ln) (x y:Tmp) (g o:Nat) (hx:a.eval (.tmp x) = .pointer (some ⟨g,o,none⟩)) (hy:a.eval (.tmp y) = .agg (la l)) (hg:w.there g o 18)
  (h:wpList Tryz.prog ops Q rest (a.put dst undef) (w.setCells g o (ln l))):wpList Tryz.prog ops Q (⟨dst,.store 50 (.tmp x) (.tmp y),ty,pos,after,none⟩ :: rest) a w:=by
 refine wpList_store_mid rfl 50 (.tmp x) (.tmp y) rfl g o (la l) hx hy (by rw [la_size];exact hg) (info36a l) (la_one l) ?_
 simpa [la] using h
theorem store_new (l l':Ln) (x y:Tmp) (hx:a.eval (.tmp x) = .pointer (some ⟨w.heap.size,0,none⟩)) (hy:a.eval (.tmp y) = .agg (la l))
  (h:wpList Tryz.prog ops Q rest (a.put dst undef) (w.alloc (.cells (la l) 50))):wpList Tryz.prog ops Q (⟨dst,.store 50 (.tmp x) (.tmp y),ty,pos,after,none⟩ :: rest) a (w.alloc (.cells (la l') 50)):=by
 refine wpList_store_row rfl 50 (.tmp x) (.tmp y) rfl w.heap.size (la l) hx hy 50 _ (heap_alloc_new _ _) (info36a l) (by rw [la_size,la_size]) (la_one l) ?_
 rw [World.setRow_alloc_new];exact h
theorem store_new' (l:Ln) (x y:Tmp) (hx:a.eval (.tmp x) = .pointer (some ⟨w.heap.size,0,none⟩)) (hy:a.eval (.tmp y) = .agg (la l))
  (h:wpList Tryz.prog ops Q rest (a.put dst undef) (w.alloc (.cells (la l) 50))):wpList Tryz.prog ops Q (⟨dst,.store 50 (.tmp x) (.tmp y),ty,pos,after,none⟩ :: rest) a (w.alloc (.cells #[.int .i64 0,.int .u8 0,.int .u32 0,.int .u32 0,.int .u32 0,.int .u32 0,.int .u32 0,.int .u32 0,.int .u32 0,.int .u32 0,.int .u32 0,.int .u32 0,.int .u32 0,.int .u32 0,.int .u32 0,.int .u32 0,.int .u32 0,.int .u32 0] 50)):=
 store_new l zl x y hx hy h
end
theorem named:∃ (t:TypeId) (n:Nat),Hid (Op.load 50=Op.load t)∧(∀ w,(isAgg t).run Tryz.prog w = .ok true w)∧(∀ w,(sizeOf t).run Tryz.prog w = .ok n w) ∧
  ∀ (g o:Nat) (l:Ln) (w:World),w.rangeAt g o (ln l)→(loadCellsFrom ⟨g,o,none⟩ 0 n #[]).run Tryz.prog w = .ok (la l) w:=
 ⟨50,18,qh rfl,Tryz.isAgg50,Tryz.sizeOf50,fun g o l w h=>by
  have:=run_loadCells_list (P:=Tryz.prog) w ⟨g,o,none⟩ (ln l) (fun j v hv=>by rw [add_lit];exact h j v hv)
  simpa [loadCells,ln_len,la] using this⟩
end Go.Proofs.YtcoimipgilkmbaaGreatDoor.kk
