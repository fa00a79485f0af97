/-
 What a plan's bound's holds, logs, May, Data answer: contracts. Condition: the table of bounds lies in its variable as the program's text has it.
-/
import Derived.Test.YtcoimipgilkmbaaGreatDoorTl
import Derived.Test.YtcoimipgilkmbaaGreatDoorRows
import Derived.WalkKit
import Derived.ProofKit
import Derived.OpenShut
import Derived.WalkLawsBesides
import Derived.Handy
import Derived.Laws.BitsAllLaws
import Derived.Lib.Hide
import Derived.LoopTactic
import Derived.Outline
import Derived.Deep.QuietTactic
import Derived.BigQuiet
import Derived.Deep.RegionHeld3
namespace Go.Proofs.YtcoimipgilkmbaaGreatDoor.tt
set_option linter.unusedVariables false
set_option linter.unusedSimpArgs false
set_option maxRecDepth 1000000
set_option maxHeartbeats 16000000
open Go Go.ChangeShapes Go.WideShapes Go.ChangeAt Go.RowKit
theorem grown_alloc {w w':World} {own:Option Nat} (h:w.grownBy w' own) (o:Obj):w.grownBy (w'.alloc o) own:=
 ⟨h.os,h.tape,h.output,by have:=h.size;simp;omega,fun k hk hn=>(Below.heap_alloc _ _ _ (Nat.lt_of_lt_of_le hk h.size)).trans (h.block k hk hn)⟩
theorem grown_refl (w:World) (own:Option Nat):w.grownBy w own:=⟨rfl,rfl,rfl,Nat.le_refl _,fun _ _ _=>rfl⟩
theorem grown_trans {a b c:World} {own:Option Nat} (h:a.grownBy b own) (k:b.grownBy c own):a.grownBy c own:=
 ⟨k.os.trans h.os,k.tape.trans h.tape,k.output.trans h.output,Nat.le_trans h.size k.size,fun i hi hn=>(k.block i (Nat.lt_of_lt_of_le hi h.size) hn).trans (h.block i hi hn)⟩
theorem grown_drew {w w':World} {own:Option Nat} (h:w.grownBy w' own):w.grownBy w'.drew own:=⟨h.os,h.tape,h.output,h.size,h.block⟩
def hb (l m:Int) (p:Bool) (x:Int):Bool:=decide (l ≤ x) && decide (x ≤ m) && (!p || decide (bits .and .i64 x (x - 1)=0))
theorem hb_low (l m:Int) (p:Bool) (x:Int) (h:¬ l ≤ x):hb l m p x=false:=by unfold hb;rw [decide_eq_false h];rfl
theorem hb_high (l m:Int) (p:Bool) (x:Int) (h:¬ x ≤ m):hb l m p x=false:=by unfold hb;rw [decide_eq_false h];simp
theorem hb_in (l m:Int) (p:Bool) (x:Int) (h1:l ≤ x) (h2:x ≤ m):hb l m p x=(!p || (bits .and .i64 x (x - 1) == 0)):=by unfold hb;rw [decide_eq_true h1,decide_eq_true h2];rfl
theorem holds_plain (l m x:Int) (w:World):Calls Tryz.prog 84 #[.agg #[.int .i64 l,.int .i64 m,.bool false],.int .i64 x] w fun e w'=>e = .returned (.bool (hb l m false x))∧w.grownBy w' none:=by
 by_cases h1:l ≤ x
 ·by_cases h2:x ≤ m
  ·rw [hb_in l m false x h1 h2]
   go_enter Tryz.func84,Tryz.ntmps84
   go_wp2
   go_ret
   exact ⟨rfl,grown_alloc (grown_refl _ _) _⟩
  ·rw [hb_high l m false x h2]
   go_enter Tryz.func84,Tryz.ntmps84
   go_wp2
   go_ret
   exact ⟨rfl,grown_alloc (grown_refl _ _) _⟩
 ·rw [hb_low l m false x h1]
  go_enter Tryz.func84,Tryz.ntmps84
  go_wp2
  go_ret
  exact ⟨rfl,grown_alloc (grown_refl _ _) _⟩
theorem holds_power (l m x:Int) (w:World) (hl:1 ≤ l) (hm:m ≤ 256):Calls Tryz.prog 84 #[.agg #[.int .i64 l,.int .i64 m,.bool true],.int .i64 x] w fun e w'=>e = .returned (.bool (hb l m true x))∧w.grownBy w' none:=by
 by_cases h1:l ≤ x
 ·by_cases h2:x ≤ m
  ·have h3:1 ≤ x:=by omega
   have h4:x ≤ 256:=by omega
   rw [hb_in l m true x h1 h2]
   go_enter Tryz.func84,Tryz.ntmps84
   go_wp2
   go_ret
   exact ⟨rfl,grown_alloc (grown_refl _ _) _⟩
  ·rw [hb_high l m true x h2]
   go_enter Tryz.func84,Tryz.ntmps84
   go_wp2
   go_ret
   exact ⟨rfl,grown_alloc (grown_refl _ _) _⟩
 ·rw [hb_low l m true x h1]
  go_enter Tryz.func84,Tryz.ntmps84
  go_wp2
  go_ret
  exact ⟨rfl,grown_alloc (grown_refl _ _) _⟩
structure Cfg where
 co:Int
 se:Int
 wa:Int
 bl:Int
 lo:Int
 ba:Int
 ne:Int
 tr:Int
def Cfg.list (c:Cfg):List Int:=[c.co,c.se,c.wa,c.bl,c.lo,c.ba,c.ne,c.tr]
def Cfg.cells (c:Cfg):Array Value:=#[.int .i64 c.co,.int .i64 c.se,.int .i64 c.wa,.int .i64 c.bl,.int .i64 c.lo,.int .i64 c.ba,.int .i64 c.ne,.int .i64 c.tr]
theorem Cfg.cells_get (c:Cfg) (k:Nat) (x:Int) (h:c.list[k]?=some x):c.cells[k]?=some (.int .i64 x):=by
 have e:c.cells[k]?=(c.list.map (Value.int .i64))[k]?:=by simp [Cfg.cells,Cfg.list]
 rw [e,List.getElem?_map,h];rfl
structure Cfg.Fits (c:Cfg):Prop where
 co:1 ≤ c.co∧c.co ≤ 16
 lo:1 ≤ c.lo∧c.lo ≤ 4
 bl:1 ≤ c.bl∧c.bl ≤ 256
def Cfg.data (c:Cfg):Int:=c.bl - c.co * c.lo
theorem Cfg.Fits.mul {c:Cfg} (h:c.Fits):1 ≤ c.co * c.lo∧c.co * c.lo ≤ 64:=
 ⟨Int.mul_pos (by have:=h.co;omega) (by have:=h.lo;omega),Int.le_trans (Int.mul_le_mul h.co.2 h.lo.2 (by have:=h.lo;omega) (by omega)) (by omega)⟩
theorem logs_any (c:Cfg) (w:World) (h:c.Fits):Calls Tryz.prog 83 #[.agg c.cells] w fun e w'=>e = .returned (.int .i64 c.data)∧w.grownBy w' none:=by
 obtain ⟨h0,h4⟩:=h.mul
 obtain ⟨h1,h2,h3⟩:=h
 unfold Cfg.cells Cfg.data
 go_enter Tryz.func83,Tryz.ntmps83
 go_wp2
 go_ret
 exact ⟨rfl,grown_alloc (grown_refl _ _) _⟩
theorem ret_i64 {a b:Int} (h:a=b):Ending.returned (.int .i64 a)=Ending.returned (.int .i64 b):=by rw [h]
theorem ret_bool {a b:Bool} (h:a=b):Ending.returned (.bool a)=Ending.returned (.bool b):=by rw [h]
def lows:List Int:=[1,1,1,1,1,1,1,0]
def highs:List Int:=[16,16,4,256,4,4,8,8]
def powers:List Bool:=[false,true,true,false,false,false,false,false]
def Tab (w:World):Prop:=∀ k,k < 8→w.cell? ⟨0,k * 3,none⟩=some (.int .i64 (lows.getD k 0))∧w.cell? ⟨0,k * 3 + 1,none⟩=some (.int .i64 (highs.getD k 0))∧w.cell? ⟨0,k * 3 + 2,none⟩=some (.bool (powers.getD k false))
theorem Tab.grown {w w':World} (h:Tab w) (hg:w.grownBy w' none):Tab w':=fun k hk=>by
 obtain ⟨h0,h1,h2⟩:=h k hk
 exact ⟨hg.cell h0 (by simp),hg.cell h1 (by simp),hg.cell h2 (by simp)⟩
theorem holds_tab (k:Nat) (hk:k < 8) (x:Int) (w:World):Calls Tryz.prog 84 #[.agg #[.int .i64 (lows.getD k 0),.int .i64 (highs.getD k 0),.bool (powers.getD k false)],.int .i64 x] w fun e w'=>e = .returned (.bool (hb (lows.getD k 0) (highs.getD k 0) (powers.getD k false) x))∧w.grownBy w' none:=by
 have hc:powers.getD k false=false ∨ (powers.getD k false=true∧1 ≤ lows.getD k 0∧highs.getD k 0 ≤ 256):=by
  revert hk k;decide
 rcases hc with h | ⟨h,h1,h2⟩
 ·rw [h];exact holds_plain _ _ _ _
 ·rw [h];exact holds_power _ _ _ _ h1 h2
def upto (fs:List Int) (k:Nat):Prop:=∀ i,i < k→hb (lows.getD i 0) (highs.getD i 0) (powers.getD i false) (fs.getD i 0)=true
instance (fs:List Int) (k:Nat):Decidable (upto fs k):=by unfold upto;infer_instance
def Cfg.may (c:Cfg):Prop:=upto c.list 8∧1 ≤ c.data
instance (c:Cfg):Decidable c.may:=by unfold Cfg.may;infer_instance
def yes (b:Prop) [Decidable b]:Int:=if b then 0 else 2
theorem yes_of {b:Prop} [Decidable b] (h:b):yes b=0:=if_pos h
theorem yes_not {b:Prop} [Decidable b] (h:¬ b):yes b=2:=if_neg h
theorem hb_bounds {l m x:Int} {p:Bool} (h:hb l m p x=true):l ≤ x∧x ≤ m:=by
 unfold hb at h;simp at h;exact h.1
theorem Cfg.fits {c:Cfg} (h:upto c.list 8):c.Fits:=⟨hb_bounds (h 0 (by omega)),hb_bounds (h 4 (by omega)),hb_bounds (h 3 (by omega))⟩
def Sees (w':World) (k B:Nat) (l m:Int) (p:Bool) (x:Int):Prop:=w'.cell? ⟨0,k * 3,none⟩=some (.int .i64 l)∧w'.cell? ⟨0,k * 3 + 1,none⟩=some (.int .i64 m)∧w'.cell? ⟨0,k * 3 + 2,none⟩=some (.bool p)∧w'.cell? ⟨B,k,none⟩=some (.int .i64 x)
theorem Sees.grown {w w':World} {k B:Nat} {l m x:Int} {p:Bool} (h:Sees w k B l m p x) (hg:w.grownBy w' none):Sees w' k B l m p x:=
 ⟨hg.cell h.1 (by simp),hg.cell h.2.1 (by simp),hg.cell h.2.2.1 (by simp),hg.cell h.2.2.2 (by simp)⟩
def put2 (c:Cfg) (w:World):World:=(w.alloc (.cells c.cells 27)).alloc (.cells c.cells 143)
theorem put2_grown (c:Cfg) (w:World):w.grownBy (put2 c w) none:=grown_alloc (grown_alloc (grown_refl _ _) _) _
theorem put2_old (c:Cfg) (w:World):(put2 c w).heap[w.heap.size]?=some (.cells c.cells 27 (0,0)):=(Below.heap_alloc _ _ _ (by simp)).trans (heap_alloc_new _ _)
theorem put2_new (c:Cfg) (w:World):(put2 c w).heap[w.heap.size + 1]?=some (.cells c.cells 143 (0,0)):=by
 have h:=heap_alloc_new (w.alloc (.cells c.cells 27)) (.cells c.cells 143)
 rwa [show (w.alloc (.cells c.cells 27)).heap.size=w.heap.size + 1 by simp] at h
theorem cells_of {w w':World} {b i:Nat} {v:Value} {cs:Array Value} {t:TypeId} (h:w.heap[b]?=some (.cells cs t (0,0))) (hg:w.grownBy w' none) (hv:cs[i]?=some v):w'.cell? ⟨b,i,none⟩=some v:=
 hg.cell ((cell_of_row _ _ _ _ _ _ h).trans hv) (by simp)
theorem may_any (c:Cfg) (w:World) (hT:Tab w):Calls Tryz.prog 42 #[.agg c.cells] w fun e w'=>e = .returned (.int .i64 (yes c.may))∧w.grownBy w' none:=by
 obtain ⟨w2,hw2⟩:∃ w2,w2=put2 c w:=⟨_,rfl⟩
 have HG0:Hid (w.grownBy w2 none):=qh (hw2 ▸ put2_grown c w)
 have HO:Hid (w2.heap[w.heap.size]?=some (.cells c.cells 27 (0,0))):=qh (hw2 ▸ put2_old c w)
 have HN:Hid (w2.heap[w.heap.size + 1]?=some (.cells c.cells 143 (0,0))):=qh (hw2 ▸ put2_new c w)
 have HT:=qh hT
 have HW:Hid ((w.alloc (.cells #[.int .i64 c.co,.int .i64 c.se,.int .i64 c.wa,.int .i64 c.bl,.int .i64 c.lo,.int .i64 c.ba,.int .i64 c.ne,.int .i64 c.tr] 27)).alloc (.cells #[.int .i64 c.co,.int .i64 c.se,.int .i64 c.wa,.int .i64 c.bl,.int .i64 c.lo,.int .i64 c.ba,.int .i64 c.ne,.int .i64 c.tr] 143)=w2):=qh hw2.symm
 clear hw2 hT
 unfold Cfg.cells
 go_enter Tryz.func42,Tryz.ntmps42
 go_wp2
 rw [HW.out]
 go_loopw [22] (fun i wr=>∃ k:Nat,k ≤ 8∧i = .int .i64 (k:Int)∧upto c.list k∧w2.grownBy wr none) (fun i _=>8 - (intOf i).toNat)
 case atStart=>exact ⟨0,by omega,rfl,fun i hi=>by omega,grown_refl _ _⟩
 case round=>
  obtain ⟨k,hk,rfl,hu,hg⟩:=hrel
  have HU:=qh hu
  have HG:=qh hg
  clear hu hg
  by_cases hlt:k < 8
  ·obtain ⟨x,hx⟩:∃ x,c.list[k]?=some x:=⟨_,List.getElem?_eq_getElem (by exact hlt)⟩
   have HX:=qh hx
   have HH:=qh (holds_tab k hlt x)
   have HS:Hid (Sees wr.drew k (w.heap.size + 1) (lows.getD k 0) (highs.getD k 0) (powers.getD k false) x):=qh (by
    obtain ⟨h0,h1,h2⟩:=HT.out.grown (grown_drew (grown_trans HG0.out HG.out)) k hlt
    exact ⟨h0,h1,h2,cells_of HN.out (grown_drew HG.out) (c.cells_get k x hx)⟩)
   have HE:Hid (hb (lows.getD k 0) (highs.getD k 0) (powers.getD k false) x=hb (lows.getD k 0) (highs.getD k 0) (powers.getD k false) (c.list.getD k 0)):=qh (by rw [List.getD_eq_getElem?_getD (l:=c.list),hx];rfl)
   clear hx
   have hup:hb (lows.getD k 0) (highs.getD k 0) (powers.getD k false) x=true→upto c.list (k + 1):=fun h i hi=>by
    by_cases hik:i < k
    ·exact HU.out i hik
    ·rw [show i=k by omega,← HE.out];exact h
   have hno:hb (lows.getD k 0) (highs.getD k 0) (powers.getD k false) x=false→yes c.may=2:=fun h=>yes_not fun hm=>by
    have:=hm.1 k hlt
    rw [← HE.out,h] at this
    cases this
   have HUP:=qh hup
   have HNO:=qh hno
   clear hup hno HE
   generalize lows.getD k 0=l at HH HS HUP HNO
   generalize highs.getD k 0=m at HH HS HUP HNO
   generalize powers.getD k false=p at HH HS HUP HNO
   cases hbb:hb l m p x
   ·rw [hbb] at HH
    have HR:=qh (HNO.out hbb)
    clear hbb
    go_wp2_with fail
    go_region_held3 (fun w'=>w'.cell? ⟨0,k * 3,none⟩=some (.int .i64 l)∧w'.cell? ⟨0,k * 3 + 1,none⟩=some (.int .i64 m)∧w'.cell? ⟨0,k * 3 + 2,none⟩=some (.bool p)∧w'.cell? ⟨w.heap.size + 1,k,none⟩=some (.int .i64 x)) (first | exact HS.out | exact Sees.grown (by assumption) (by assumption)) (first | (go_at_call 84;((with_reducible refine (HH.out _).mono ?_);rintro e w5 ⟨rfl,hg5⟩;have HG5:=qh hg5;clear hg5)))
    go_wp2_with fail
    go_ret
    exact ⟨ret_i64 HR.out.symm,grown_trans (grown_drew (grown_trans HG0.out HG.out)) HG5.out⟩
   ·rw [hbb] at HH
    have HR:=qh (HUP.out hbb)
    clear hbb
    go_wp2_with fail
    go_region_held3 (fun w'=>w'.cell? ⟨0,k * 3,none⟩=some (.int .i64 l)∧w'.cell? ⟨0,k * 3 + 1,none⟩=some (.int .i64 m)∧w'.cell? ⟨0,k * 3 + 2,none⟩=some (.bool p)∧w'.cell? ⟨w.heap.size + 1,k,none⟩=some (.int .i64 x)) (first | exact HS.out | exact Sees.grown (by assumption) (by assumption)) (first | (go_at_call 84;((with_reducible refine (HH.out _).mono ?_);rintro e w5 ⟨rfl,hg5⟩;have HG5:=qh hg5;clear hg5)))
    go_wp2_with fail
    go_roundw
    case rel=>exact ⟨k + 1,by omega,by go_num,HR.out,grown_trans (grown_drew HG.out) HG5.out⟩
    case measure=>simp [intOf];omega
  ·obtain rfl:k=8:=by omega
   have hF:=Cfg.fits HU.out
   have c0:=cells_of HO.out HG.out (show c.cells[0]?=some (.int .i64 c.co) from rfl)
   have c1:=cells_of HO.out HG.out (show c.cells[1]?=some (.int .i64 c.se) from rfl)
   have c2:=cells_of HO.out HG.out (show c.cells[2]?=some (.int .i64 c.wa) from rfl)
   have c3:=cells_of HO.out HG.out (show c.cells[3]?=some (.int .i64 c.bl) from rfl)
   have c4:=cells_of HO.out HG.out (show c.cells[4]?=some (.int .i64 c.lo) from rfl)
   have c5:=cells_of HO.out HG.out (show c.cells[5]?=some (.int .i64 c.ba) from rfl)
   have c6:=cells_of HO.out HG.out (show c.cells[6]?=some (.int .i64 c.ne) from rfl)
   have c7:=cells_of HO.out HG.out (show c.cells[7]?=some (.int .i64 c.tr) from rfl)
   have HL:=qh (logs_any c wr hF)
   have hy:yes c.may=yes (1 ≤ c.data):=by
    by_cases h:1 ≤ c.data
    ·rw [yes_of (b:=c.may) ⟨HU.out,h⟩,yes_of h]
    ·rw [yes_not (b:=c.may) (fun h'=>h h'.2),yes_not h]
   have HY:=qh hy
   unfold Cfg.cells at HL
   clear hF hy
   by_cases hd:1 ≤ c.data
   ·have HD:Hid (yes (1 ≤ c.data)=0):=qh (yes_of hd)
    go_wp2_with (go_at_call 83;((with_reducible refine HL.out.mono ?_);rintro e w5 ⟨rfl,hg5⟩;have HG5:=qh hg5;clear hg5))
    go_ret
    exact ⟨ret_i64 (HY.out.trans HD.out).symm,grown_trans (grown_trans HG0.out HG.out) HG5.out⟩
   ·have HD:Hid (yes (1 ≤ c.data)=2):=qh (yes_not hd)
    go_wp2_with (go_at_call 83;((with_reducible refine HL.out.mono ?_);rintro e w5 ⟨rfl,hg5⟩;have HG5:=qh hg5;clear hg5))
    go_ret
    exact ⟨ret_i64 (HY.out.trans HD.out).symm,grown_trans (grown_trans HG0.out HG.out) HG5.out⟩
theorem Cfg.may.fits {c:Cfg} (h:c.may):c.Fits:=Cfg.fits h.1
structure CfgAt (w:World) (b:Nat) (c:Cfg):Prop where
 c0:w.cell? ⟨b,0,none⟩=some (.int .i64 c.co)
 c1:w.cell? ⟨b,1,none⟩=some (.int .i64 c.se)
 c2:w.cell? ⟨b,2,none⟩=some (.int .i64 c.wa)
 c3:w.cell? ⟨b,3,none⟩=some (.int .i64 c.bl)
 c4:w.cell? ⟨b,4,none⟩=some (.int .i64 c.lo)
 c5:w.cell? ⟨b,5,none⟩=some (.int .i64 c.ba)
 c6:w.cell? ⟨b,6,none⟩=some (.int .i64 c.ne)
 c7:w.cell? ⟨b,7,none⟩=some (.int .i64 c.tr)
theorem CfgAt.grown {w w':World} {b:Nat} {c:Cfg} (h:CfgAt w b c) (hg:w.grownBy w' none):CfgAt w' b c:=
 ⟨hg.cell h.c0 (by simp),hg.cell h.c1 (by simp),hg.cell h.c2 (by simp),hg.cell h.c3 (by simp),hg.cell h.c4 (by simp),hg.cell h.c5 (by simp),hg.cell h.c6 (by simp),hg.cell h.c7 (by simp)⟩
theorem cfg_at (w:World) (c:Cfg):CfgAt (w.alloc (.cells c.cells 27)) w.heap.size c:=by
 have h:=heap_alloc_new w (.cells c.cells 27)
 constructor <;> exact (cell_of_row _ _ _ _ _ _ h).trans rfl
theorem data_yes (c:Cfg) (w:World) (hT:Tab w) (hm:c.may):Calls Tryz.prog 41 #[.agg c.cells] w fun e w'=>e = .returned (.int .i64 c.data)∧w.grownBy w' none:=by
 have HG0:Hid (w.grownBy (w.alloc (.cells c.cells 27)) none):=qh (grown_alloc (grown_refl _ _) _)
 have HA:=qh (cfg_at w c)
 have HM:=qh (may_any c (w.alloc (.cells c.cells 27)) (hT.grown HG0.out))
 rw [yes_of hm] at HM
 have HL:Hid (∀ w,_):=qh (fun w=>logs_any c w hm.fits)
 clear hT hm
 unfold Cfg.cells at *
 go_enter Tryz.func41,Tryz.ntmps41
 go_wp2_with (first
  | (go_at_call 42;((with_reducible refine HM.out.mono ?_);rintro e w1 ⟨rfl,hg1⟩;obtain ⟨c0,c1,c2,c3,c4,c5,c6,c7⟩:=HA.out.grown hg1;have HG1:=qh hg1;clear hg1))
  | (go_at_call 83;((with_reducible refine (HL.out _).mono ?_);rintro e w2 ⟨rfl,hg2⟩;have HG2:=qh hg2;clear hg2)))
 go_ret
 exact ⟨rfl,grown_trans (grown_trans HG0.out HG1.out) HG2.out⟩
theorem data_no (c:Cfg) (w:World) (hT:Tab w) (hm:¬ c.may):Calls Tryz.prog 41 #[.agg c.cells] w fun e w'=>e = .returned (.int .i64 0)∧w.grownBy w' none:=by
 have HG0:Hid (w.grownBy (w.alloc (.cells c.cells 27)) none):=qh (grown_alloc (grown_refl _ _) _)
 have HM:=qh (may_any c (w.alloc (.cells c.cells 27)) (hT.grown HG0.out))
 rw [yes_not hm] at HM
 clear hT hm
 unfold Cfg.cells at *
 go_enter Tryz.func41,Tryz.ntmps41
 go_wp2_with (first
  | (go_at_call 42;((with_reducible refine HM.out.mono ?_);rintro e w1 ⟨rfl,hg1⟩;have HG1:=qh hg1;clear hg1)))
 go_ret
 exact ⟨rfl,grown_trans HG0.out HG1.out⟩
theorem CfgAt.limbs {w:World} {b:Nat} {c:Cfg} (h:CfgAt w b c):w.cell? ⟨b,0,none⟩=some (.int .i64 c.co)∧w.cell? ⟨b,1,none⟩=some (.int .i64 c.se)∧w.cell? ⟨b,2,none⟩=some (.int .i64 c.wa)∧w.cell? ⟨b,3,none⟩=some (.int .i64 c.bl)∧w.cell? ⟨b,4,none⟩=some (.int .i64 c.lo)∧w.cell? ⟨b,5,none⟩=some (.int .i64 c.ba)∧w.cell? ⟨b,6,none⟩=some (.int .i64 c.ne)∧w.cell? ⟨b,7,none⟩=some (.int .i64 c.tr):=
 ⟨h.c0,h.c1,h.c2,h.c3,h.c4,h.c5,h.c6,h.c7⟩
end Go.Proofs.YtcoimipgilkmbaaGreatDoor.tt
