/-
 What the document's Take answers of a block that comes; of any note. Conditions: as NrE names them.
-/
import Derived.Test.YtcoimipgilkmbaaGreatDoorTl
import Derived.Test.YtcoimipgilkmbaaGreatDoorNpG
namespace Go.Proofs.YtcoimipgilkmbaaGreatDoor.np
set_option linter.unusedVariables false
set_option linter.unusedSimpArgs false
set_option maxRecDepth 1000000
set_option maxHeartbeats 16000000
open Go Go.ChangeShapes Go.WideShapes Go.ChangeAt Go.RowKit Go.Shelf
open Go.Proofs.YtcoimipgilkmbaaGreatDoor.nr
open Go.Proofs.YtcoimipgilkmbaaGreatDoor.nl (OutN SlN)
open Go.Proofs.YtcoimipgilkmbaaGreatDoor.tt (Cfg Nt na nt zn bare zd fits row tyne lt_of U grown_refl grown_trans grown_alloc grown_setCells grown_drew grown_drewN Sl Next flat)
open Go.Proofs.YtcoimipgilkmbaaGreatDoor.kk (Ln St zl la ln cfind cdrop cuse cgoes cwrite cturn cput setAt setOf live fF Shp Kept)
open Go.Proofs.YtcoimipgilkmbaaGreatDoor.bk (Bk rem kills puts putE fd fl Nd Rg dead fresh)
open Go.Proofs.YtcoimipgilkmbaaGreatDoor.mrk (Ms rdS wrS meets addE Dom)
open Go.Proofs.YtcoimipgilkmbaaGreatDoor.de (Dl sT gE rF aD)
open Go.Proofs.YtcoimipgilkmbaaGreatDoor.oo (ref)
section
variable {w:World} {R:RL} {P:Pm} {k:Nr} (h:RN w R P k) (I:Inv P k) (hP:Pok P) (n:Nt)
include h I hP
theorem rtake_6 (hf:fits P.c n) (ht:n.t=P.core) (hk:n.k=6):Calls Tryz.prog 71 #[.pointer (some ⟨R.q,0,none⟩),.agg (na n)] w fun e w'=>∃ s,e = .returned (.tuple #[s,.bool (takeG P k n),.int .i64 (takeE P k n)])∧OutN w w' s (takeO P k n)∧RN w' R P (takeS P k n)∧Kept R.any w w':=by
 have m0:=(Mid.of h).alloc (na n) 37
 obtain ⟨A,hA⟩:∃ A,w.heap.size=A:=⟨_,rfl⟩
 obtain ⟨W0,hW0⟩:∃ W,w.alloc (.cells (na n) 37)=W:=⟨_,rfl⟩
 rw [hW0,hA] at m0
 have M0:=qh m0
 have HFT:=qh fun W=>tt.rfits_any P.c n W hP.may
 obtain ⟨tc,mc,HTC,haggc,hsizec,hldc⟩:=namedC
 obtain ⟨t',mm,HTT,hagg,hsize,hld⟩:=tt.named
 have HK:Hid (∀ W,Mid w W R P k [(A,on n)]→(loadCellsFrom ⟨R.q,0,none⟩ 0 mc #[]).run Tryz.prog W = .ok P.c.cells W∧(loadCellsFrom ⟨A,0,none⟩ 0 mm #[]).run Tryz.prog W = .ok (na n) W∧W.cell? ⟨A,2,none⟩=some (.int .i64 n.t)∧W.cell? ⟨R.q,8,none⟩=some (.int .i64 P.core)):=qh fun W m=>⟨hldc _ _ _ m.rn.cfg,hld _ _ _ (rangeN m (.head _)),cellN m (.head _) 2 _ rfl,m.rn.c1⟩
 rw [decide_eq_true hf] at HFT
 have e1:(n.t != P.core)=false:=by simpa using ht
 obtain ⟨a,ha⟩:∃ x,aw k n=x:=⟨_,rfl⟩
 have HAW:=qh ha
 have HI:=qh I
 have HP:=qh hP
 have HF:=qh hf
 have HT2:=qh ht
 have hE:takeE P k n=(if aw k n=true∧fitsAsk k n=true then 0 else 8):=by
  unfold takeE
  rw [if_neg (fun e=>e ⟨hf,ht⟩),if_pos hk]
 have hG:takeG P k n=false:=by
  unfold takeG
  rw [show decide (n.k=7)=false by simp;omega]
  simp
 obtain ⟨fa,hfa⟩:∃ x,fitsAsk k n=x:=⟨_,rfl⟩
 have HLN:Hid (¬ (a=true∧fa=true)→takeE P k n=8∧takeG P k n=false∧takeO P k n=[]∧takeS P k n=k):=qh fun e=>by
  have hE8:takeE P k n=8:=by rw [hE,ha,hfa,if_neg e]
  exact ⟨hE8,hG,by unfold takeO;rw [hE8];rfl,by unfold takeS;rw [hE8];rfl⟩
 have HLY:Hid (a=true→fa=true→takeE P k n=0∧takeG P k n=false∧takeO P k n=[doneN P n]∧takeS P k n={ k with ss:=(cput P.c k.ss (lineOf n)).1,wt:=false }∧(cput P.c k.ss (lineOf n)).2=0):=qh fun e e2=>by
  have hE0:takeE P k n=0:=by rw [hE,ha,hfa,if_pos ⟨e,e2⟩]
  exact ⟨hE0,hG,by unfold takeO;rw [hE0,if_neg (by simp),if_pos hk],by unfold takeS;rw [hE0,if_neg (by simp),if_pos hk],put_ok hP I hk hE0⟩
 have hak:a=true→k.ask.k=1 ∨ k.ask.k=2:=fun e=>(I.ak (aw_iff.1 (ha.trans e)).1).2
 have e6:(n.k == 6)=true:=by simp [hk]
 have HFA:Hid ((a=false→(a && fa)=false)∧(a=true→(k.ask.k=1 ∨ k.ask.k=2))∧fa=((!decide (k.ask.k=2) || decide (n.s=3)) && (!decide (k.ask.k=1) || !decide (n.s=3)))):=qh ⟨fun e=>by rw [e];rfl,hak,by rw [← hfa];rfl⟩
 clear h I hP m0 hf hldc hld ht ha hE hG hk hak hfa
 go_enter Tryz.func71,Tryz.ntmps71
 go_upto_region 1 with fail
 clear hA hW0
 rw [HTT.out,HTC.out]
 have M0d:=qh (drew M0.out)
 refine wp_region_held_drew (S:=fun W=>Mid w W R P k [(A,on n)]) (by kernel_rfl) M0d.out (fun hHeld=>?_)
 obtain ⟨Wd,hWd⟩:∃ x,W0.drew=x:=⟨_,rfl⟩
 rw [hWd] at M0d hHeld ⊢
 clear hWd hHeld
 have hHeld:=M0d.out
 refine tl 0 ?_ rfl ?_ ?_ (tl 1 ?_ rfl ?_ ?_ (tl 2 ?_ rfl ?_ ?_ (tl 3 ?_ rfl ?_ ?_ (tl 4 ?_ rfl ?_ ?_ ?_))))
 iterate 5 (rotate_left;(next=>(try simp only [lay]);((intro w0 hSw;obtain ⟨hs1,hs2,hs3,hs4⟩:=HK.out _ hSw;go_simp);try (with_reducible rfl)));next=>rfl)
 try simp only [lay]
 refine rd 5 rfl fun K hK=>?_
 go_simp
 (with_reducible refine (HFT.out _).mono ?_);rintro e w1 ⟨rfl,hg1⟩
 have M1:=qh (M0d.out.grown hg1);clear hg1
 go_wp2_with fail
 refine hK.out _ _ (M1.out) (fun hHeld=>?_)
 clear hK K
 try simp only [lay]
 refine tl 6 ?_ rfl ?_ ?_ (tl 7 ?_ rfl ?_ ?_ (tl 8 ?_ rfl ?_ ?_ (tl 9 ?_ rfl ?_ ?_ (tl 10 ?_ rfl ?_ ?_ ?_))))
 iterate 5 (rotate_left;(next=>(try simp only [lay]);((intro w0 hSw;obtain ⟨hs1,hs2,hs3,hs4⟩:=HK.out _ hSw;go_simp);try (with_reducible rfl)));next=>rfl)
 try simp only [lay]
 refine tl 11 ?_ rfl ?_ ?_ (tl 12 ?_ rfl ?_ ?_ (tl 13 ?_ rfl ?_ ?_ (tl 14 ?_ rfl ?_ ?_ (tl 15 ?_ rfl ?_ ?_ ?_))))
 iterate 5 (rotate_left;(next=>(try simp only [lay]);((intro w0 hSw;obtain ⟨hs1,hs2,hs3,hs4⟩:=HK.out _ hSw;go_simp);try (with_reducible rfl)));next=>rfl)
 try simp only [lay]
 refine wpAnyH_done (by kernel_rfl) ?_ _
 clear hHeld M0d M0 HFT
 go_upto_region 3 with fail
 go_cut [7] from 25 to 38 (fun s7 wx=>s7 = .bool a∧Mid w wx R P k [(A,on n)])
 case first=>
  have q37:=M1.out.rn.c37
  have q16:=M1.out.rn.cask 3 _ rfl
  have qa3:=cellN M1.out (.head _) 3 _ rfl
  have HMZ:Hid (∀ n',Mid w (w1.drewN n') R P k [(A,on n)]):=qh fun n'=>M1.out.grown (grown_drewN (grown_refl _ none) n')
  obtain ⟨wt,hwt⟩:∃ x,k.wt=x:=⟨_,rfl⟩
  have HA:Hid (a=(wt && (k.ask.b == n.b))):=qh (by rw [← HAW.out,← hwt];unfold aw;rfl)
  rw [hwt] at q37
  clear hwt
  cases wt
  ·go_quiet (fail)
   go_wp2_with fail
   go_meet
   exact ⟨by rw [HA.out];rfl,HMZ.out _⟩
  ·go_quiet (fail)
   go_wp2_with fail
   go_meet
   exact ⟨by rw [HA.out];rfl,HMZ.out _⟩
 case rest=>
  obtain ⟨rfl,hm⟩:=hcut
  obtain ⟨W2,h2⟩:∃ x,x=wc:=⟨_,rfl⟩
  subst h2
  have M2:=qh hm
  clear hm M1 HK
  have qk:=cellN M2.out (.head _) 0 _ rfl
  have q13:=M2.out.rn.cask 0 _ rfl
  have q5n:=cellN M2.out (.head _) 5 _ rfl
  go_upto_region 6 with fail
  go_cut [70] from 43 to 70 (fun s70 wx=>s70 = .bool (!(a && fa))∧wx=W2)
  case first=>
   cases a
   ·go_wp2_with fail
    go_meet
    exact ⟨rfl,rfl⟩
   ·have hx:=HFA.out.2.2
    by_cases h3:n.s=3
    ·have e3:(n.s != 3)=false:=by simp [h3]
     have e4:(n.s == 3)=true:=by simp [h3]
     rcases HFA.out.2.1 rfl with h1 | h1
     ·have f1:(k.ask.k == 2)=false:=by simp [h1]
      have f2:(k.ask.k == 1)=true:=by simp [h1]
      have hz:fa=false:=by rw [hx,h1,h3];rfl
      clear hx h3 h1
      go_wp2_with fail
      go_meet
      exact ⟨by simp [hz],rfl⟩
     ·have f1:(k.ask.k == 2)=true:=by simp [h1]
      have f2:(k.ask.k == 1)=false:=by simp [h1]
      have hz:fa=true:=by rw [hx,h1,h3];rfl
      clear hx h3 h1
      go_wp2_with fail
      go_meet
      exact ⟨by simp [hz],rfl⟩
    ·have e3:(n.s != 3)=true:=by simp [h3]
     have e4:(n.s == 3)=false:=by simp [h3]
     rcases HFA.out.2.1 rfl with h1 | h1
     ·have f1:(k.ask.k == 2)=false:=by simp [h1]
      have f2:(k.ask.k == 1)=true:=by simp [h1]
      have hz:fa=true:=by rw [hx,h1,decide_eq_false h3];rfl
      clear hx h3 h1
      go_wp2_with fail
      go_meet
      exact ⟨by simp [hz],rfl⟩
     ·have f1:(k.ask.k == 2)=true:=by simp [h1]
      have f2:(k.ask.k == 1)=false:=by simp [h1]
      have hz:fa=false:=by rw [hx,h1,decide_eq_false h3];rfl
      clear hx h3 h1
      go_wp2_with fail
      go_meet
      exact ⟨by simp [hz],rfl⟩
  case rest=>
   obtain ⟨rfl,rfl⟩:=hcut
   obtain ⟨W3,h3⟩:∃ x,x=wc:=⟨_,rfl⟩
   subst h3
   obtain ⟨ok,hok⟩:∃ x,(a && fa)=x:=⟨_,rfl⟩
   rw [hok]
   have HOK:=qh hok
   clear hok HFA q13 q5n
   cases ok
   ·have HL:=qh (HLN.out (fun e=>by have:=HOK.out;rw [e.1,e.2] at this;cases this))
    go_wp2_with fail
    go_ret3
    rw [HL.out.1,HL.out.2.1,HL.out.2.2.1,HL.out.2.2.2]
    exact ⟨_,rfl,OutN.nil _ _,M2.out.rn,M2.out.kp⟩
   ·have hab:a=true∧fa=true:=by have:=HOK.out;simpa using this
    have HL:=qh (HLY.out hab.1 hab.2)
    clear hab HLN HLY HOK
    go_upto_region 8 with fail
    have q2:=M2.out.rn.c2
    have n3:=cellN M2.out (.head _) 3 _ rfl
    have n5:=cellN M2.out (.head _) 5 _ rfl
    have n8:W3.rangeAt A 8 (n.d.map U):=fun j v hv=>by
     have:=rangeN M2.out (.head _) (j + 8) v (by rw [nt];exact hv)
     rwa [Nat.zero_add,Nat.add_comm] at this
    obtain ⟨tb,mb,HTB,haggb,hsizeb,hldb,_,_⟩:=bk.named29
    have hl1:=hldb A 8 n.d n.hd W3 n8
    have hl2:=hldb A 8 n.d n.hd W3.drew n8
    have HPT:=qh (cput_ (drew M2.out) HI.out.ch (lineOf n))
    rw [HL.out.2.2.2.2] at HPT
    have fdl:=nl.fold_ln n.b n.s n.d n.hd
    rw [show (⟨n.b,n.s,n.d,n.hd⟩:Ln)=lineOf n from rfl] at fdl
    have szl:(la (lineOf n)).size=18:=kk.la_size _
    have szd:(row n.d).size=16:=by simp [tt.row,n.hd]
    rw [HTB.out.1]
    go_still_tail 11,(by kernel_rfl)
    change wpList _ _ _ _ _ W3.drew
    clear hldb
    go_upto_region 12 with (first
     | (go_at_call 116;((with_reducible refine HPT.out.mono ?_);rintro e w4 ⟨rfl,hm4,hk4⟩;have M4:=qh hm4;have q37:=hm4.rn.c37;have f37:=freeq hm4 37;have M5:=qh (np.waits hm4 false).1;clear hm4 hk4)))
    obtain ⟨W5,hW5⟩:∃ x,w4.setCell ⟨R.q,37,none⟩ (.bool false)=x:=⟨_,rfl⟩
    rw [hW5] at M5 ⊢
    clear hW5 M4 q37 f37 q2 n3 n5 n8 hl1 hl2 fdl szd szl HPT
    have q1:=M5.out.rn.c1
    have n3:=cellN M5.out (.head _) 3 _ rfl
    obtain ⟨dn,hdn⟩:∃ x,doneN P n=x:=⟨_,rfl⟩
    have HE:Hid (#[.int .u8 11,.int .i64 P.core,.int .i64 (-1),.int .i64 n.b,.int .u64 0,.int .u8 0,.bool false,.bool false,.int .u32 0,.int .u32 0,.int .u32 0,.int .u32 0,.int .u32 0,.int .u32 0,.int .u32 0,.int .u32 0,.int .u32 0,.int .u32 0,.int .u32 0,.int .u32 0,.int .u32 0,.int .u32 0,.int .u32 0,.int .u32 0]=na dn):=qh (by rw [← hdn];rfl)
    have HDN:=qh hdn
    clear hdn
    go_still_tail 7,(by kernel_rfl)
    change wpList _ _ _ _ _ W5.drew
    rw [HE.out]
    have szn:=tt.na_size dn
    have fdn:=nl.fold_nt dn
    have M6:=qh (drew M5.out)
    go_wp2_with fail
    go_ret3
    rw [HL.out.1,HL.out.2.1,HL.out.2.2.1,HL.out.2.2.2.1,HDN.out]
    have m7:=M6.out.alloc (na dn) 37
    exact ⟨_,rfl,out_one M6.out.kp.size dn,m7.rn,m7.kp⟩
theorem rtake_any (hst:0 ≤ n.st):Calls Tryz.prog 71 #[.pointer (some ⟨R.q,0,none⟩),.agg (na n)] w fun e w'=>∃ s,e = .returned (.tuple #[s,.bool (takeG P k n),.int .i64 (takeE P k n)])∧OutN w w' s (takeO P k n)∧RN w' R P (takeS P k n)∧Kept R.any w w':=by
 by_cases hf:fits P.c n∧n.t=P.core
 ·obtain ⟨hks,_⟩:=fit_note hP hf.1 hf.2
  have hks2:n.k=6 ∨ n.k=7 ∨ n.k=8 ∨ (n.k=4 ∨ n.k=5):=by omega
  rcases hks2 with hk | hk | hk | hk
  ·exact rtake_6 h I hP n hf.1 hf.2 hk
  ·exact rtake_7 h I hP n hf.1 hf.2 hk hst
  ·exact rtake_8 h I hP n hf.1 hf.2 hk
  ·exact rtake_45 h I hP n hf.1 hf.2 hk hst
 ·have hE:takeE P k n=2:=by unfold takeE;rw [if_pos hf]
  have hG:takeG P k n=false:=by unfold takeG;rw [hE];rfl
  have hO:takeO P k n=[]:=by unfold takeO;rw [hE];rfl
  have hS:takeS P k n=k:=by unfold takeS;rw [hE];rfl
  rw [hE,hG,hO,hS]
  by_cases h1:fits P.c n
  ·exact (rtake_core h hP n h1 (fun e=>hf ⟨h1,e⟩)).mono fun e w' hh=>⟨_,hh.1,OutN.nil _ _,hh.2⟩
  ·exact (rtake_fits h hP n h1).mono fun e w' hh=>⟨_,hh.1,OutN.nil _ _,hh.2⟩
end
end Go.Proofs.YtcoimipgilkmbaaGreatDoor.np
