/-
 New: contracts. Conditions: the tables of bounds and of kinds lie in their variables as the program's text has them.
-/
import Derived.Test.YtcoimipgilkmbaaGreatDoorTl
import Derived.Test.YtcoimipgilkmbaaGreatDoorNlO
import Derived.Test.YtcoimipgilkmbaaGreatDoorCay
namespace Go.Proofs.YtcoimipgilkmbaaGreatDoor.nl
set_option linter.unusedVariables false
set_option linter.unusedSimpArgs false
set_option maxRecDepth 1000000
set_option maxHeartbeats 16000000
open Go Go.ChangeShapes Go.WideShapes Go.ChangeAt Go.RowKit Go.Shelf
open Go.Proofs.YtcoimipgilkmbaaGreatDoor.nr
open Go.Proofs.YtcoimipgilkmbaaGreatDoor.tt (CfgAt cfg_at may_any yes_of yes_not data_yes Cfg Nt na nt zn bare zd fits row tyne lt_of U Tab TabK grown_refl grown_trans grown_alloc grown_setCells grown_drew grown_drewN yes Sl Next flat)
open Go.Proofs.YtcoimipgilkmbaaGreatDoor.kk (Ln St zl la ln cfind cdrop cuse cgoes cwrite cturn cput setAt setOf live fF Shp Cac Kept)
open Go.Proofs.YtcoimipgilkmbaaGreatDoor.bk (Bk rem kills puts putE fd fl Nd Rg dead fresh BkAt)
open Go.Proofs.YtcoimipgilkmbaaGreatDoor.mrk (Ms rdS wrS meets addE Dom MkAt)
open Go.Proofs.YtcoimipgilkmbaaGreatDoor.de (Dl sT gE rF aD LAt)
open Go.Proofs.YtcoimipgilkmbaaGreatDoor.oo (ref)
structure Nw (w W:World) (Q:Nat) (cs:Array Value) (c:Cfg):Prop where
 old:w.grownBy W none
 cfg:CfgAt W w.heap.size c
 q:W.heap[Q]?=some (.cells cs 96 (0,0))
 qw:w.heap.size < Q
section
variable {w W W':World} {Q:Nat} {cs:Array Value} {c:Cfg} (h:Nw w W Q cs c)
include h
theorem Nw.grown (hg:W.grownBy W' none):Nw w W' Q cs c:=⟨grown_trans h.old hg,h.cfg.grown hg,(hg.block _ (lt_of h.q) (by simp)).trans h.q,h.qw⟩
theorem Nw.set (i:Nat) (v:Value):Nw w (W.setCell ⟨Q,i,none⟩ v) Q (cs.setIfInBounds i v) c:=by
 have hg:=kk.grown_setCell W Q i v
 obtain ⟨hlt,hk⟩:=Array.getElem?_eq_some_iff.1 h.q
 refine ⟨tt.grown_new h.old (by have:=h.qw;omega) hg,?_,?_,h.qw⟩
 ·obtain ⟨a0,a1,a2,a3,a4,a5,a6,a7⟩:=h.cfg
  have hne:some w.heap.size ≠ some Q:=by have:=h.qw;simp;omega
  exact ⟨hg.cell a0 hne,hg.cell a1 hne,hg.cell a2 hne,hg.cell a3 hne,hg.cell a4 hne,hg.cell a5 hne,hg.cell a6 hne,hg.cell a7 hne⟩
 ·show (W.heap.modify Q _)[Q]?=_
  rw [Array.getElem?_eq_getElem (by rw [Array.size_modify];exact hlt),Array.getElem_modify_self,hk]
  simp
theorem Nw.cell (i:Nat) (v:Value) (hv:cs[i]?=some v):W.cell? ⟨Q,i,none⟩=some v:=(cell_of_row _ _ _ _ _ _ h.q).trans hv
theorem Nw.free (i:Nat):W.frozen? ⟨Q,i,none⟩=false:=frozen_of_row _ _ _ _ _ h.q
end
structure Pts (W:World) (Q:Nat) (P:Pm) (K:kk.Loc) (bt bp mt mb:Nat):Prop where
 ca:Cac W K P.c (kk.empty P.c)
 kq:∀ g,K.any g→Q < g
 ba:BkAt W bt bp (.slice none 0 0) P.N P.m []
 bq:Q < bt∧Q < bp
 mr:MkAt W mt mb P.N Ms.zero
 mq:Q < mt∧Q < mb
theorem new_arg (c:Cfg) (core:Int) (w:World) (hT:Tb w) (hm:¬ c.may):Calls Tryz.prog 8 #[.agg c.cells,.int .i64 core] w fun e w'=>e = .returned (.tuple #[.pointer none,.int .i64 2])∧w.grownBy w' none:=by
 have HG0:Hid (w.grownBy (w.alloc (.cells c.cells 27)) none):=qh (grown_alloc (grown_refl _ _) _)
 have HM:=qh (may_any c (w.alloc (.cells c.cells 27)) (hT.b.grown HG0.out))
 rw [yes_not hm] at HM
 obtain ⟨d0,d1,d2,d3,d4,d5,d6,d7⟩:=(cfg_at w c)
 clear hT hm
 unfold Cfg.cells at *
 go_enter Tryz.func8,Tryz.ntmps8
 go_wp2_with (go_at_call 42;((with_reducible refine HM.out.mono ?_);rintro e w1 ⟨rfl,hg1⟩;have HG1:=qh hg1;clear hg1))
 go_ret2
 exact ⟨rfl,grown_trans HG0.out HG1.out⟩
theorem new_range (c:Cfg) (core:Int) (w:World) (hT:Tb w) (hm:c.may) (hc:core < 0 ∨ c.co ≤ core):Calls Tryz.prog 8 #[.agg c.cells,.int .i64 core] w fun e w'=>e = .returned (.tuple #[.pointer none,.int .i64 5])∧w.grownBy w' none:=by
 have HG0:Hid (w.grownBy (w.alloc (.cells c.cells 27)) none):=qh (grown_alloc (grown_refl _ _) _)
 have HM:=qh (may_any c (w.alloc (.cells c.cells 27)) (hT.b.grown HG0.out))
 rw [yes_of hm] at HM
 have HC:=qh (cfg_at w c)
 obtain ⟨d0,d1,d2,d3,d4,d5,d6,d7⟩:=(cfg_at w c)
 clear hT hm
 by_cases h0:core < 0
 ·have e0:decide (core < 0)=true:=by simp [h0]
  clear hc h0
  unfold Cfg.cells at *
  go_enter Tryz.func8,Tryz.ntmps8
  go_wp2_with (go_at_call 42;((with_reducible refine HM.out.mono ?_);rintro e w1 ⟨rfl,hg1⟩;have HG1:=qh hg1;obtain ⟨d0,d1,d2,d3,d4,d5,d6,d7⟩:=HC.out.grown hg1;clear hg1))
  go_ret2
  exact ⟨rfl,grown_trans HG0.out HG1.out⟩
 ·have e0:decide (core < 0)=false:=by simp [h0]
  have e1:decide (c.co ≤ core)=true:=by simp;omega
  clear hc h0
  unfold Cfg.cells at *
  go_enter Tryz.func8,Tryz.ntmps8
  go_wp2_with (go_at_call 42;((with_reducible refine HM.out.mono ?_);rintro e w1 ⟨rfl,hg1⟩;have HG1:=qh hg1;obtain ⟨d0,d1,d2,d3,d4,d5,d6,d7⟩:=HC.out.grown hg1;clear hg1))
  go_ret2
  exact ⟨rfl,grown_trans HG0.out HG1.out⟩
def lc0 (P:Pm):Array Value:=#[.int .i64 P.core,.int .i64 (P.N:Int),.pointer none,.pointer none,.pointer none,.pointer none,.int .u8 0,.int .i64 0,.int .i64 0,.int .i64 0,.int .u64 0,.int .u8 0,.bool false,.bool false,.int .u32 0,.int .u32 0,.int .u32 0,.int .u32 0,.int .u32 0,.int .u32 0,.int .u32 0,.int .u32 0,.int .u32 0,.int .u32 0,.int .u32 0,.int .u32 0,.int .u32 0,.int .u32 0,.int .u32 0,.int .u32 0]
theorem new_ok (P:Pm) (hP:Pok P) (w:World) (hT:Tb w):Calls Tryz.prog 8 #[.agg P.c.cells,.int .i64 P.core] w fun e w'=>∃ L:LL,e = .returned (.tuple #[.pointer (some ⟨L.q,0,none⟩),.int .i64 0])∧LN w' L P (newS P)∧w.grownBy w' none∧∀ g,L.any g→w.heap.size ≤ g:=by
 have hg0:w.grownBy (w.alloc (.cells P.c.cells 27)) none:=grown_alloc (grown_refl _ _) _
 have HG0:=qh hg0
 have HM:=qh (may_any P.c (w.alloc (.cells P.c.cells 27)) (hT.b.grown hg0))
 rw [yes_of hP.may] at HM
 have HC:=qh (cfg_at w P.c)
 obtain ⟨d0,d1,d2,d3,d4,d5,d6,d7⟩:=(cfg_at w P.c)
 have HD:Hid (∀ w',w.grownBy w' none→_):=qh fun w' h=>data_yes P.c w' (hT.b.grown h) hP.may
 rw [hP.data] at HD
 have e0:decide (P.core < 0)=false:=by have:=hP.c0;simp;omega
 have e1:decide (P.c.co ≤ P.core)=false:=by have:=hP.c1;simp;omega
 have hba:=tt.hb_bounds (hP.may.1 5 (by omega))
 have hba2:1 ≤ P.c.ba∧P.c.ba ≤ 65536:=⟨hba.1,by have:=hba.2;revert this;show P.c.ba ≤ _→_;intro this;exact Int.le_trans this (by decide)⟩
 have hne:1 ≤ P.c.ne∧P.c.ne ≤ 8:=tt.hb_bounds (hP.may.1 6 (by omega))
 have hmm:=hP.backs
 have HCN:Hid (∀ W,w.grownBy W none→_):=qh fun W hg=>kk.new_ok P.c W (hT.b.grown hg) hP.may
 have HBN:Hid (∀ W,w.grownBy W none→_):=qh fun W hg=>bk.new_yes P.c P.m W (hT.b.grown hg) hP.may hmm (by omega) (by omega)
 rw [hP.data] at HBN
 have HMN:Hid (∀ W,w.grownBy W none→_):=qh fun W hg=>mrk.new_yes P.c P.N W (hT.b.grown hg) hP.may hP.data hP.small
 have HDN:=qh fun W=>de.new_ok P.c.ne W hne.1 hne.2
 have HTB:Hid (∀ W,w.grownBy W none→Tb W):=qh fun W hg=>hT.grown hg
 have HPB:Hid (∀ W,w.grownBy W none→0 < w.heap.size∧1 < w.heap.size):=qh fun W hg=>⟨hT.lb,hT.lk⟩
 have HNW:Hid (∀ W,w.grownBy W none→w.heap.size < W.heap.size→CfgAt W w.heap.size P.c→Nw w (W.alloc (.cells (lc0 P) 96)) W.heap.size (lc0 P) P.c):=qh fun W hg hs hc=>⟨grown_alloc hg _,hc.grown (grown_alloc (grown_refl _ _) _),heap_alloc_new _ _,hs⟩
 have HS0:Hid (∀ W,(w.alloc (.cells P.c.cells 27)).grownBy W none→w.heap.size < W.heap.size):=qh fun W hg=>by have:=hg.size;simp at this;omega
 unfold lc0 at HNW
 clear hT hP hg0 hba hba2 hne hmm
 unfold Cfg.cells at *
 go_enter Tryz.func8,Tryz.ntmps8
 go_wp2_with (first
  | (go_at_call 42;((with_reducible refine HM.out.mono ?_);rintro e w1 ⟨rfl,hg1⟩;have HG1:=qh hg1;obtain ⟨d0,d1,d2,d3,d4,d5,d6,d7⟩:=HC.out.grown hg1;clear hg1))
  | (go_at_call 41;((with_reducible refine (HD.out _ (grown_trans HG0.out HG1.out)).mono ?_);rintro e w2 ⟨rfl,hg2⟩;have N3:=qh (HNW.out w2 (grown_trans HG0.out (grown_trans HG1.out hg2)) (HS0.out _ (grown_trans HG1.out hg2)) ((HC.out.grown HG1.out).grown hg2));obtain ⟨d0,d1,d2,d3,d4,d5,d6,d7⟩:=N3.out.cfg;clear hg2))
  | (go_at_call 43;((with_reducible refine (HCN.out _ N3.out.old).mono ?_);rintro e w4 ⟨K,rfl,hc4,hg4,hk4⟩;have HC4:=qh hc4;have HK4:=qh hk4;have N4:=qh (N3.out.grown hg4);have a2:=N4.out.cell 2 _ rfl;have b2:=N4.out.free 2;have N5:=qh (N4.out.set 2 (.pointer (some ⟨K.b,0,none⟩)));obtain ⟨d0,d1,d2,d3,d4,d5,d6,d7⟩:=N5.out.cfg;clear hc4 hg4 hk4))
  | (go_at_call 44;((with_reducible refine (HBN.out _ N5.out.old).mono ?_);rintro e w6 ⟨bt,bp,rfl,hb6,ht6,hp6,hg6⟩;have HB6:=qh hb6;have HT6:=qh ht6;have HP6:=qh hp6;have HG6:=qh hg6;have N6:=qh (N5.out.grown hg6);have a3:=N6.out.cell 3 _ rfl;have b3:=N6.out.free 3;have N7:=qh (N6.out.set 3 (.pointer (some ⟨bt,0,none⟩)));obtain ⟨d0,d1,d2,d3,d4,d5,d6,d7⟩:=N7.out.cfg;clear hb6 ht6 hp6 hg6))
  | (go_at_call 45;((with_reducible refine (HMN.out _ N7.out.old).mono ?_);rintro e w8 ⟨mt,mb,rfl,hm8,ht8,hb8,hg8⟩;have HM8:=qh hm8;have HT8:=qh ht8;have HB8:=qh hb8;have HG8:=qh hg8;have N8:=qh (N7.out.grown hg8);have a4:=N8.out.cell 4 _ rfl;have b4:=N8.out.free 4;have N9:=qh (N8.out.set 4 (.pointer (some ⟨mt,0,none⟩)));obtain ⟨d0,d1,d2,d3,d4,d5,d6,d7⟩:=N9.out.cfg;clear hm8 ht8 hb8 hg8))
  | (go_at_call 46;((with_reducible refine (HDN.out _).mono ?_);rintro e w10 ⟨rfl,hd10,hg10⟩;have HD10:=qh hd10;have HG10:=qh hg10;have N10:=qh (N9.out.grown hg10);have a5:=N10.out.cell 5 _ rfl;have b5:=N10.out.free 5;clear hd10 hg10)))
 go_ret2
 obtain ⟨W9,hW9⟩:∃ x,w8.setCell ⟨w2.heap.size,4,none⟩ (.pointer (some ⟨mt,0,none⟩))=x:=⟨_,rfl⟩
 have g9:=kk.grown_setCell w8 w2.heap.size 4 (.pointer (some ⟨mt,0,none⟩))
 rw [hW9] at N9 HD10 HG10 g9
 have hz9:W9.heap.size=w8.heap.size:=by rw [← hW9];simp [World.setCell]
 rw [hz9] at HD10
 obtain ⟨W7,hW7⟩:∃ x,w6.setCell ⟨w2.heap.size,3,none⟩ (.pointer (some ⟨bt,0,none⟩))=x:=⟨_,rfl⟩
 have g7:=kk.grown_setCell w6 w2.heap.size 3 (.pointer (some ⟨bt,0,none⟩))
 rw [hW7] at N7 HG8 HT8 HB8 g7
 obtain ⟨W5,hW5⟩:∃ x,w4.setCell ⟨w2.heap.size,2,none⟩ (.pointer (some ⟨K.b,0,none⟩))=x:=⟨_,rfl⟩
 have g5:=kk.grown_setCell w4 w2.heap.size 2 (.pointer (some ⟨K.b,0,none⟩))
 rw [hW5] at N5 HG6 HT6 HP6 g5
 have N11:=N10.out.set 5 (.pointer (some ⟨w8.heap.size,0,none⟩))
 have g11:=kk.grown_setCell w10 w2.heap.size 5 (.pointer (some ⟨w8.heap.size,0,none⟩))
 obtain ⟨W11,hW11⟩:∃ x,w10.setCell ⟨w2.heap.size,5,none⟩ (.pointer (some ⟨w8.heap.size,0,none⟩))=x:=⟨_,rfl⟩
 rw [hW11] at N11 g11
 have gD:w10.grownBy W11 (some w2.heap.size):=g11
 have gC:w8.grownBy W11 (some w2.heap.size):=grown_trans g9 (grown_trans (de.grown_to HG10.out) gD)
 have gB:w6.grownBy W11 (some w2.heap.size):=grown_trans g7 (grown_trans (de.grown_to HG8.out) gC)
 have gA:w4.grownBy W11 (some w2.heap.size):=grown_trans g5 (grown_trans (de.grown_to HG6.out) gB)
 obtain ⟨Q,hQ⟩:∃ x,w2.heap.size=x:=⟨_,rfl⟩
 have k3:∀ g,K.any g→Q < g:=fun g hg=>by have:=HK4.out g hg;simp at this;omega
 rw [hQ] at gA gB gC gD N11 N5 N7 N9 hW11
 have l5:=lt_of N5.out.q
 have l7:=lt_of N7.out.q
 have l9:=lt_of N9.out.q
 rw [hz9] at l9
 have hQw:=N11.qw
 have hbt:=HT6.out
 have hbp:=HP6.out
 have hmt:=HT8.out
 have hmb:=HB8.out
 have hnQ:∀ g,Q < g→some g ≠ some Q:=fun g hg=>by simp;omega
 have hany:∀ g,LL.any ⟨Q,K,bt,bp,.slice none 0 0,mt,mb,w8.heap.size⟩ g→w.heap.size ≤ g:=by
  rintro g (h | hc | (h | h | hv) | (h | h) | h)
  ·have h:g=Q:=h
   omega
  ·have:=k3 g hc;omega
  ·have h:g=bt:=h
   omega
  ·have h:g=bp:=h
   omega
  ·simp [Value.ownBlock] at hv
  ·have h:g=mt:=h
   omega
  ·have h:g=mb:=h
   omega
  ·have h:g=w8.heap.size:=h
   omega
 have ht:=HPB.out W11 N11.old
 refine ⟨⟨Q,K,bt,bp,.slice none 0 0,mt,mb,w8.heap.size⟩,by simp [← hQ],?_,?_,hany⟩
 ·rw [show w10.setCell ⟨w2.heap.size,5,none⟩ (.pointer (some ⟨w8.heap.size,0,none⟩))=W11 from by rw [hQ,hW11]]
  refine ⟨N11.q.trans ?_,HC4.out.same fun g hg=>gA.block g (HC4.out.lt hg) (hnQ g (k3 g hg)),HB6.out.of_block (gB.block _ HB6.out.lt (hnQ _ (by omega))) (gB.block _ HB6.out.pool.lt (hnQ _ (by omega))) (fun g hh=>by simp [Value.ownBlock] at hh),HM8.out.of_block (gC.block _ HM8.out.lt (hnQ _ (by omega))) (gC.block _ HM8.out.map.lt (hnQ _ (by omega))),HD10.out.same (gD.block _ HD10.out.lt (hnQ _ (by omega))),HTB.out _ N11.old,fun g hg=>by have:=hany g hg;omega⟩
  have hsh:shown (newS P)=zn:=rfl
  rw [hsh]
  unfold lc
  rw [zn_na]
  simp
 ·rw [show w10.setCell ⟨w2.heap.size,5,none⟩ (.pointer (some ⟨w8.heap.size,0,none⟩))=W11 from by rw [hQ,hW11]]
  exact N11.old
end Go.Proofs.YtcoimipgilkmbaaGreatDoor.nl
