/-
 What the document's Take answers of a note for it, of each kind. Conditions: as NrE names them.
-/
import Derived.Test.YtcoimipgilkmbaaGreatDoorTl
import Derived.Test.YtcoimipgilkmbaaGreatDoorNpF
namespace Go.Proofs.YtcoimipgilkmbaaGreatDoor.np
set_option linter.unusedVariables false
set_option linter.unusedSimpArgs false
set_option maxRecDepth 1000000
set_option maxHeartbeats 16000000
open Go Go.ChangeShapes Go.WideShapes Go.ChangeAt Go.RowKit Go.Shelf
open Go.Proofs.YtcoimipgilkmbaaGreatDoor.nr
open Go.Proofs.YtcoimipgilkmbaaGreatDoor.nl (OutN SlN)
open Go.Proofs.YtcoimipgilkmbaaGreatDoor.tt (Cfg Nt na nt zn bare zd fits row tyne lt_of U grown_refl grown_trans grown_alloc grown_setCells grown_drew grown_drewN Sl Next flat)
open Go.Proofs.YtcoimipgilkmbaaGreatDoor.kk (Ln St zl la ln cfind cdrop cuse cgoes cwrite cturn cput setAt setOf live fF Shp Kept)
open Go.Proofs.YtcoimipgilkmbaaGreatDoor.bk (Bk rem kills puts putE fd fl Nd Rg dead fresh)
open Go.Proofs.YtcoimipgilkmbaaGreatDoor.mrk (Ms rdS wrS meets addE Dom)
open Go.Proofs.YtcoimipgilkmbaaGreatDoor.de (Dl sT gE rF aD)
open Go.Proofs.YtcoimipgilkmbaaGreatDoor.oo (ref)
theorem out_one {w W:World} (hs:w.heap.size ≤ W.heap.size) (n:Nt):OutN w (W.alloc (.cells (na n) 37)) (.slice (some ⟨W.heap.size,0,none⟩) 1 1) [n]:=by
 refine ⟨.inr ⟨W.heap.size,0,1,na n,rfl,heap_alloc_new _ _,?_,Nat.le_refl _,by unfold maxLen;omega,?_,fun j x hx=>?_⟩,fun g hg=>?_⟩
 ·rw [tt.flat_single,tt.nt_len];rfl
 ·rw [tt.na_size];decide
 ·rw [tt.flat_single] at hx
  rw [Nat.zero_add,na,List.getElem?_toArray];exact hx
 ·simp [Value.ownBlock] at hg
  subst hg
  exact hs
section
variable {w:World} {R:RL} {P:Pm} {k:Nr} (h:RN w R P k) (I:Inv P k) (hP:Pok P) (n:Nt)
include h I hP
theorem rtake_8 (hf:fits P.c n) (ht:n.t=P.core) (hk:n.k=8):Calls Tryz.prog 71 #[.pointer (some ⟨R.q,0,none⟩),.agg (na n)] w fun e w'=>∃ s,e = .returned (.tuple #[s,.bool (takeG P k n),.int .i64 (takeE P k n)])∧OutN w w' s (takeO P k n)∧RN w' R P (takeS P k n)∧Kept R.any w w':=by
 have m0:=(Mid.of h).alloc (na n) 37
 obtain ⟨A,hA⟩:∃ A,w.heap.size=A:=⟨_,rfl⟩
 obtain ⟨W0,hW0⟩:∃ W,w.alloc (.cells (na n) 37)=W:=⟨_,rfl⟩
 rw [hW0,hA] at m0
 have M0:=qh m0
 have HFT:=qh fun W=>tt.rfits_any P.c n W hP.may
 obtain ⟨tc,mc,HTC,haggc,hsizec,hldc⟩:=namedC
 obtain ⟨t',mm,HTT,hagg,hsize,hld⟩:=tt.named
 have HK:Hid (∀ W,Mid w W R P k [(A,on n)]→(loadCellsFrom ⟨R.q,0,none⟩ 0 mc #[]).run Tryz.prog W = .ok P.c.cells W∧(loadCellsFrom ⟨A,0,none⟩ 0 mm #[]).run Tryz.prog W = .ok (na n) W∧W.cell? ⟨A,2,none⟩=some (.int .i64 n.t)∧W.cell? ⟨R.q,8,none⟩=some (.int .i64 P.core)):=qh fun W m=>⟨hldc _ _ _ m.rn.cfg,hld _ _ _ (rangeN m (.head _)),cellN m (.head _) 2 _ rfl,m.rn.c1⟩
 rw [decide_eq_true hf] at HFT
 have e1:(n.t != P.core)=false:=by simpa using ht
 obtain ⟨a,ha⟩:∃ x,aw k n=x:=⟨_,rfl⟩
 have HAW:=qh ha
 have HI:=qh I
 have HP:=qh hP
 have HF:=qh hf
 have HT2:=qh ht
 have hE:takeE P k n=(if (bk.look k.bs n.b).isSome=true then 0 else 8):=by
  unfold takeE
  rw [if_neg (fun e=>e ⟨hf,ht⟩),if_neg (by omega),if_neg (by omega),if_pos hk]
 have hG:takeG P k n=false:=by
  unfold takeG
  rw [show decide (n.k=7)=false by simp [hk]]
  simp
 have hO:takeO P k n=[]:=by
  unfold takeO
  split
  ·rfl
  ·rw [if_neg (by omega),if_pos (.inr hk)]
 have hS:takeS P k n={ k with bs:=rem k.bs n.b }:=by
  unfold takeS
  rw [hE]
  cases hx:(bk.look k.bs n.b).isSome
  ·rw [if_pos (by simp)]
   have:rem k.bs n.b=k.bs:=bk.rem_none (by simpa using hx)
   rw [this]
  ·rw [if_neg (by simp),if_neg (by omega),if_neg (by omega),if_pos hk]
 have e6:(n.k == 6)=false:=by simp [hk]
 have e7:(n.k == 7)=false:=by simp [hk]
 have e8:(n.k == 8)=true:=by simp [hk]
 obtain ⟨bi,hbi⟩:∃ x,(bk.look k.bs n.b).isSome=x:=⟨_,rfl⟩
 rw [hbi] at hE
 have HBI:=qh hbi
 have HL:=qh (And.intro hE (And.intro hG (And.intro hO hS)))
 clear h I hP m0 hf hldc hld ht ha hE hG hO hS hk hbi
 go_enter Tryz.func71,Tryz.ntmps71
 go_upto_region 1 with fail
 clear hA hW0
 rw [HTT.out,HTC.out]
 have M0d:=qh (drew M0.out)
 refine wp_region_held_drew (S:=fun W=>Mid w W R P k [(A,on n)]) (by kernel_rfl) M0d.out (fun hHeld=>?_)
 obtain ⟨Wd,hWd⟩:∃ x,W0.drew=x:=⟨_,rfl⟩
 rw [hWd] at M0d hHeld ⊢
 clear hWd hHeld
 have hHeld:=M0d.out
 refine tl 0 ?_ rfl ?_ ?_ (tl 1 ?_ rfl ?_ ?_ (tl 2 ?_ rfl ?_ ?_ (tl 3 ?_ rfl ?_ ?_ (tl 4 ?_ rfl ?_ ?_ ?_))))
 iterate 5 (rotate_left;(next=>(try simp only [lay]);((intro w0 hSw;obtain ⟨hs1,hs2,hs3,hs4⟩:=HK.out _ hSw;go_simp);try (with_reducible rfl)));next=>rfl)
 try simp only [lay]
 refine rd 5 rfl fun K hK=>?_
 go_simp
 (with_reducible refine (HFT.out _).mono ?_);rintro e w1 ⟨rfl,hg1⟩
 have M1:=qh (M0d.out.grown hg1);clear hg1
 go_wp2_with fail
 refine hK.out _ _ (M1.out) (fun hHeld=>?_)
 clear hK K
 try simp only [lay]
 refine tl 6 ?_ rfl ?_ ?_ (tl 7 ?_ rfl ?_ ?_ (tl 8 ?_ rfl ?_ ?_ (tl 9 ?_ rfl ?_ ?_ (tl 10 ?_ rfl ?_ ?_ ?_))))
 iterate 5 (rotate_left;(next=>(try simp only [lay]);((intro w0 hSw;obtain ⟨hs1,hs2,hs3,hs4⟩:=HK.out _ hSw;go_simp);try (with_reducible rfl)));next=>rfl)
 try simp only [lay]
 refine tl 11 ?_ rfl ?_ ?_ (tl 12 ?_ rfl ?_ ?_ (tl 13 ?_ rfl ?_ ?_ (tl 14 ?_ rfl ?_ ?_ (tl 15 ?_ rfl ?_ ?_ ?_))))
 iterate 5 (rotate_left;(next=>(try simp only [lay]);((intro w0 hSw;obtain ⟨hs1,hs2,hs3,hs4⟩:=HK.out _ hSw;go_simp);try (with_reducible rfl)));next=>rfl)
 try simp only [lay]
 refine wpAnyH_done (by kernel_rfl) ?_ _
 clear hHeld M0d M0 HFT
 go_upto_region 3 with fail
 go_cut [7] from 25 to 38 (fun s7 wx=>s7 = .bool a∧Mid w wx R P k [(A,on n)])
 case first=>
  have q37:=M1.out.rn.c37
  have q16:=M1.out.rn.cask 3 _ rfl
  have qa3:=cellN M1.out (.head _) 3 _ rfl
  have HMZ:Hid (∀ n',Mid w (w1.drewN n') R P k [(A,on n)]):=qh fun n'=>M1.out.grown (grown_drewN (grown_refl _ none) n')
  obtain ⟨wt,hwt⟩:∃ x,k.wt=x:=⟨_,rfl⟩
  have HA:Hid (a=(wt && (k.ask.b == n.b))):=qh (by rw [← HAW.out,← hwt];unfold aw;rfl)
  rw [hwt] at q37
  clear hwt
  cases wt
  ·go_quiet (fail)
   go_wp2_with fail
   go_meet
   exact ⟨by rw [HA.out];rfl,HMZ.out _⟩
  ·go_quiet (fail)
   go_wp2_with fail
   go_meet
   exact ⟨by rw [HA.out];rfl,HMZ.out _⟩
 case rest=>
  obtain ⟨rfl,hm⟩:=hcut
  obtain ⟨W2,h2⟩:∃ x,x=wc:=⟨_,rfl⟩
  subst h2
  have M2:=qh hm
  clear hm M1 HK
  have qk:=cellN M2.out (.head _) 0 _ rfl
  go_upto_region 19 with fail
  have q3:=M2.out.rn.c3
  have qb:=cellN M2.out (.head _) 3 _ rfl
  have HDR:=qh (bdrop_ (drew M2.out) HI.out.nd HI.out.rg n.b)
  rw [HBI.out] at HDR
  go_still_tail 6,(by kernel_rfl)
  change wpList _ _ _ _ _ W2.drew
  cases bi
  ·go_wp2_with (go_at_call 118;((with_reducible refine HDR.out.mono ?_);rintro e w3 ⟨rfl,hm3,hk3⟩;have M3:=qh hm3;clear hm3 hk3))
   go_ret3
   rw [HL.out.1,HL.out.2.1,HL.out.2.2.1,HL.out.2.2.2]
   exact ⟨_,rfl,OutN.nil _ _,M3.out.rn,M3.out.kp⟩
  ·go_wp2_with (go_at_call 118;((with_reducible refine HDR.out.mono ?_);rintro e w3 ⟨rfl,hm3,hk3⟩;have M3:=qh hm3;clear hm3 hk3))
   go_ret3
   rw [HL.out.1,HL.out.2.1,HL.out.2.2.1,HL.out.2.2.2]
   exact ⟨_,rfl,OutN.nil _ _,M3.out.rn,M3.out.kp⟩
theorem rtake_7 (hf:fits P.c n) (ht:n.t=P.core) (hk:n.k=7) (hst:0 ≤ n.st):Calls Tryz.prog 71 #[.pointer (some ⟨R.q,0,none⟩),.agg (na n)] w fun e w'=>∃ s,e = .returned (.tuple #[s,.bool (takeG P k n),.int .i64 (takeE P k n)])∧OutN w w' s (takeO P k n)∧RN w' R P (takeS P k n)∧Kept R.any w w':=by
 have m0:=(Mid.of h).alloc (na n) 37
 obtain ⟨A,hA⟩:∃ A,w.heap.size=A:=⟨_,rfl⟩
 obtain ⟨W0,hW0⟩:∃ W,w.alloc (.cells (na n) 37)=W:=⟨_,rfl⟩
 rw [hW0,hA] at m0
 have M0:=qh m0
 have HFT:=qh fun W=>tt.rfits_any P.c n W hP.may
 obtain ⟨tc,mc,HTC,haggc,hsizec,hldc⟩:=namedC
 obtain ⟨t',mm,HTT,hagg,hsize,hld⟩:=tt.named
 have HK:Hid (∀ W,Mid w W R P k [(A,on n)]→(loadCellsFrom ⟨R.q,0,none⟩ 0 mc #[]).run Tryz.prog W = .ok P.c.cells W∧(loadCellsFrom ⟨A,0,none⟩ 0 mm #[]).run Tryz.prog W = .ok (na n) W∧W.cell? ⟨A,2,none⟩=some (.int .i64 n.t)∧W.cell? ⟨R.q,8,none⟩=some (.int .i64 P.core)):=qh fun W m=>⟨hldc _ _ _ m.rn.cfg,hld _ _ _ (rangeN m (.head _)),cellN m (.head _) 2 _ rfl,m.rn.c1⟩
 rw [decide_eq_true hf] at HFT
 have e1:(n.t != P.core)=false:=by simpa using ht
 obtain ⟨a,ha⟩:∃ x,aw k n=x:=⟨_,rfl⟩
 have HAW:=qh ha
 have HI:=qh I
 have HP:=qh hP
 have HF:=qh hf
 have HT2:=qh ht
 have hE:takeE P k n=(if aw k n=true then 0 else 8):=by
  unfold takeE
  rw [if_neg (fun e=>e ⟨hf,ht⟩),if_neg (by omega),if_pos hk]
 have hG:takeG P k n=(aw k n && rF k.d n.st):=by
  unfold takeG
  rw [hE,show decide (n.k=7)=true by simp [hk]]
  cases aw k n <;> simp
 have hO:takeO P k n=[]:=by
  unfold takeO
  split
  ·rfl
  ·rw [if_neg (by omega),if_pos (.inl hk)]
 have hS:takeS P k n=(if aw k n=true then { k with wt:=false } else k):=by
  unfold takeS
  rw [hE]
  cases hx:aw k n
  ·rw [if_pos (by simp)];rfl
  ·rw [if_neg (by simp),if_neg (by omega),if_pos hk];rfl
 have e6:(n.k == 6)=false:=by simp [hk]
 have e7:(n.k == 7)=true:=by simp [hk]
 rw [ha] at hE hG hS
 have HL:=qh (And.intro hE (And.intro hG (And.intro hO hS)))
 clear h I hP m0 hf hldc hld ht ha hE hG hO hS hk
 go_enter Tryz.func71,Tryz.ntmps71
 go_upto_region 1 with fail
 clear hA hW0
 rw [HTT.out,HTC.out]
 have M0d:=qh (drew M0.out)
 refine wp_region_held_drew (S:=fun W=>Mid w W R P k [(A,on n)]) (by kernel_rfl) M0d.out (fun hHeld=>?_)
 obtain ⟨Wd,hWd⟩:∃ x,W0.drew=x:=⟨_,rfl⟩
 rw [hWd] at M0d hHeld ⊢
 clear hWd hHeld
 have hHeld:=M0d.out
 refine tl 0 ?_ rfl ?_ ?_ (tl 1 ?_ rfl ?_ ?_ (tl 2 ?_ rfl ?_ ?_ (tl 3 ?_ rfl ?_ ?_ (tl 4 ?_ rfl ?_ ?_ ?_))))
 iterate 5 (rotate_left;(next=>(try simp only [lay]);((intro w0 hSw;obtain ⟨hs1,hs2,hs3,hs4⟩:=HK.out _ hSw;go_simp);try (with_reducible rfl)));next=>rfl)
 try simp only [lay]
 refine rd 5 rfl fun K hK=>?_
 go_simp
 (with_reducible refine (HFT.out _).mono ?_);rintro e w1 ⟨rfl,hg1⟩
 have M1:=qh (M0d.out.grown hg1);clear hg1
 go_wp2_with fail
 refine hK.out _ _ (M1.out) (fun hHeld=>?_)
 clear hK K
 try simp only [lay]
 refine tl 6 ?_ rfl ?_ ?_ (tl 7 ?_ rfl ?_ ?_ (tl 8 ?_ rfl ?_ ?_ (tl 9 ?_ rfl ?_ ?_ (tl 10 ?_ rfl ?_ ?_ ?_))))
 iterate 5 (rotate_left;(next=>(try simp only [lay]);((intro w0 hSw;obtain ⟨hs1,hs2,hs3,hs4⟩:=HK.out _ hSw;go_simp);try (with_reducible rfl)));next=>rfl)
 try simp only [lay]
 refine tl 11 ?_ rfl ?_ ?_ (tl 12 ?_ rfl ?_ ?_ (tl 13 ?_ rfl ?_ ?_ (tl 14 ?_ rfl ?_ ?_ (tl 15 ?_ rfl ?_ ?_ ?_))))
 iterate 5 (rotate_left;(next=>(try simp only [lay]);((intro w0 hSw;obtain ⟨hs1,hs2,hs3,hs4⟩:=HK.out _ hSw;go_simp);try (with_reducible rfl)));next=>rfl)
 try simp only [lay]
 refine wpAnyH_done (by kernel_rfl) ?_ _
 clear hHeld M0d M0 HFT
 go_upto_region 3 with fail
 go_cut [7] from 25 to 38 (fun s7 wx=>s7 = .bool a∧Mid w wx R P k [(A,on n)])
 case first=>
  have q37:=M1.out.rn.c37
  have q16:=M1.out.rn.cask 3 _ rfl
  have qa3:=cellN M1.out (.head _) 3 _ rfl
  have HMZ:Hid (∀ n',Mid w (w1.drewN n') R P k [(A,on n)]):=qh fun n'=>M1.out.grown (grown_drewN (grown_refl _ none) n')
  obtain ⟨wt,hwt⟩:∃ x,k.wt=x:=⟨_,rfl⟩
  have HA:Hid (a=(wt && (k.ask.b == n.b))):=qh (by rw [← HAW.out,← hwt];unfold aw;rfl)
  rw [hwt] at q37
  clear hwt
  cases wt
  ·go_quiet (fail)
   go_wp2_with fail
   go_meet
   exact ⟨by rw [HA.out];rfl,HMZ.out _⟩
  ·go_quiet (fail)
   go_wp2_with fail
   go_meet
   exact ⟨by rw [HA.out];rfl,HMZ.out _⟩
 case rest=>
  obtain ⟨rfl,hm⟩:=hcut
  obtain ⟨W2,h2⟩:∃ x,x=wc:=⟨_,rfl⟩
  subst h2
  have M2:=qh hm
  clear hm M1 HK
  have qk:=cellN M2.out (.head _) 0 _ rfl
  cases a
  ·go_wp2_with fail
   go_ret3
   rw [HL.out.1,HL.out.2.1,HL.out.2.2.1,HL.out.2.2.2]
   exact ⟨_,rfl,OutN.nil _ _,M2.out.rn,M2.out.kp⟩
  ·have q37:=M2.out.rn.c37
   have f37:=freeq M2.out 37
   have M3:=qh (np.waits M2.out false).1
   have HRF:=qh fun n'=>de.rrefused_any HI.out.dl (M3.out.grown (grown_drewN (grown_refl _ none) n')).rn.dl n.st hst
   have q5:=M3.out.rn.c5
   have qs:=cellN M3.out (.head _) 4 _ rfl
   have HMZ:Hid (∀ n',Mid w (((W2.setCell ⟨R.q,37,none⟩ (.bool false))).drewN n') R P _ [(A,on n)]):=qh fun n'=>M3.out.grown (grown_drewN (grown_refl _ none) n')
   go_upto_region 17 with fail
   go_quiet ((go_at_call 117;exact Calls.quiet_of (HRF.out _)))
   go_wp2_with fail
   go_ret3
   rw [HL.out.1,HL.out.2.1,HL.out.2.2.1,HL.out.2.2.2]
   exact ⟨_,rfl,OutN.nil _ _,(HMZ.out _).rn,(HMZ.out _).kp⟩
theorem rtake_45 (hf:fits P.c n) (ht:n.t=P.core) (hk:n.k=4 ∨ n.k=5) (hst:0 ≤ n.st):Calls Tryz.prog 71 #[.pointer (some ⟨R.q,0,none⟩),.agg (na n)] w fun e w'=>∃ s,e = .returned (.tuple #[s,.bool (takeG P k n),.int .i64 (takeE P k n)])∧OutN w w' s (takeO P k n)∧RN w' R P (takeS P k n)∧Kept R.any w w':=by
 have m0:=(Mid.of h).alloc (na n) 37
 obtain ⟨A,hA⟩:∃ A,w.heap.size=A:=⟨_,rfl⟩
 obtain ⟨W0,hW0⟩:∃ W,w.alloc (.cells (na n) 37)=W:=⟨_,rfl⟩
 rw [hW0,hA] at m0
 have M0:=qh m0
 have HFT:=qh fun W=>tt.rfits_any P.c n W hP.may
 obtain ⟨tc,mc,HTC,haggc,hsizec,hldc⟩:=namedC
 obtain ⟨t',mm,HTT,hagg,hsize,hld⟩:=tt.named
 have HK:Hid (∀ W,Mid w W R P k [(A,on n)]→(loadCellsFrom ⟨R.q,0,none⟩ 0 mc #[]).run Tryz.prog W = .ok P.c.cells W∧(loadCellsFrom ⟨A,0,none⟩ 0 mm #[]).run Tryz.prog W = .ok (na n) W∧W.cell? ⟨A,2,none⟩=some (.int .i64 n.t)∧W.cell? ⟨R.q,8,none⟩=some (.int .i64 P.core)):=qh fun W m=>⟨hldc _ _ _ m.rn.cfg,hld _ _ _ (rangeN m (.head _)),cellN m (.head _) 2 _ rfl,m.rn.c1⟩
 rw [decide_eq_true hf] at HFT
 have e1:(n.t != P.core)=false:=by simpa using ht
 obtain ⟨a,ha⟩:∃ x,aw k n=x:=⟨_,rfl⟩
 have HAW:=qh ha
 have HI:=qh I
 have HP:=qh hP
 have HF:=qh hf
 have HT2:=qh ht
 have hE:takeE P k n=0:=by
  unfold takeE
  rw [if_neg (fun e=>e ⟨hf,ht⟩),if_neg (by omega),if_neg (by omega),if_neg (by omega)]
 have hG:takeG P k n=false:=by
  unfold takeG
  rw [show decide (n.k=7)=false by simp;omega]
  simp
 have hOS:∃ an k',takeO P k n=[an]∧takeS P k n=k'∧∀ W L,Mid w W R P k L→Calls Tryz.prog 119 #[.pointer (some ⟨R.q,0,none⟩),.agg (na n)] W fun e w'=>e = .returned (.agg (na an))∧RN w' R P k'∧Kept R.any W w':=by
  cases hr:rfs k n with
  | true=>
   refine ⟨refN P k n,_,?_,rfl,fun W L m=>?_⟩
   ·unfold takeO;rw [hE,if_neg (by simp),if_neg (by omega),if_neg (by omega),hr,if_pos rfl]
   ·have hS:takeS P k n={ k with d:=aD k.d (met k n) n.st }:=by unfold takeS;rw [hE,if_neg (by simp),if_neg (by omega),if_neg (by omega),if_neg (by omega),hr,if_pos rfl]
    rw [hS]
    exact rask_no m.rn I n hst hr
  | false=>
   refine ⟨ackN P k n,_,?_,rfl,fun W L m=>?_⟩
   ·unfold takeO;rw [hE,if_neg (by simp),if_neg (by omega),if_neg (by omega),hr,if_neg (by simp)]
   ·have hS:takeS P k n=askedS P k n:=by unfold takeS askedS;rw [hE,if_neg (by simp),if_neg (by omega),if_neg (by omega),if_neg (by omega),hr,if_neg (by simp)]
    rw [hS]
    exact rask_yes m.rn I n hst hk hr
 obtain ⟨an,k',hO,hS,hAS⟩:=hOS
 have e6:(n.k == 6)=false:=by simp;omega
 have e7:(n.k == 7)=false:=by simp;omega
 have e8:(n.k == 8)=false:=by simp;omega
 have HL:=qh (And.intro hE (And.intro hG (And.intro hO hS)))
 have HAS:=qh hAS
 clear h I hP m0 hf hldc hld ht ha hE hG hO hS hk hAS
 go_enter Tryz.func71,Tryz.ntmps71
 go_upto_region 1 with fail
 clear hA hW0
 rw [HTT.out,HTC.out]
 have M0d:=qh (drew M0.out)
 refine wp_region_held_drew (S:=fun W=>Mid w W R P k [(A,on n)]) (by kernel_rfl) M0d.out (fun hHeld=>?_)
 obtain ⟨Wd,hWd⟩:∃ x,W0.drew=x:=⟨_,rfl⟩
 rw [hWd] at M0d hHeld ⊢
 clear hWd hHeld
 have hHeld:=M0d.out
 refine tl 0 ?_ rfl ?_ ?_ (tl 1 ?_ rfl ?_ ?_ (tl 2 ?_ rfl ?_ ?_ (tl 3 ?_ rfl ?_ ?_ (tl 4 ?_ rfl ?_ ?_ ?_))))
 iterate 5 (rotate_left;(next=>(try simp only [lay]);((intro w0 hSw;obtain ⟨hs1,hs2,hs3,hs4⟩:=HK.out _ hSw;go_simp);try (with_reducible rfl)));next=>rfl)
 try simp only [lay]
 refine rd 5 rfl fun K hK=>?_
 go_simp
 (with_reducible refine (HFT.out _).mono ?_);rintro e w1 ⟨rfl,hg1⟩
 have M1:=qh (M0d.out.grown hg1);clear hg1
 go_wp2_with fail
 refine hK.out _ _ (M1.out) (fun hHeld=>?_)
 clear hK K
 try simp only [lay]
 refine tl 6 ?_ rfl ?_ ?_ (tl 7 ?_ rfl ?_ ?_ (tl 8 ?_ rfl ?_ ?_ (tl 9 ?_ rfl ?_ ?_ (tl 10 ?_ rfl ?_ ?_ ?_))))
 iterate 5 (rotate_left;(next=>(try simp only [lay]);((intro w0 hSw;obtain ⟨hs1,hs2,hs3,hs4⟩:=HK.out _ hSw;go_simp);try (with_reducible rfl)));next=>rfl)
 try simp only [lay]
 refine tl 11 ?_ rfl ?_ ?_ (tl 12 ?_ rfl ?_ ?_ (tl 13 ?_ rfl ?_ ?_ (tl 14 ?_ rfl ?_ ?_ (tl 15 ?_ rfl ?_ ?_ ?_))))
 iterate 5 (rotate_left;(next=>(try simp only [lay]);((intro w0 hSw;obtain ⟨hs1,hs2,hs3,hs4⟩:=HK.out _ hSw;go_simp);try (with_reducible rfl)));next=>rfl)
 try simp only [lay]
 refine wpAnyH_done (by kernel_rfl) ?_ _
 clear hHeld M0d M0 HFT
 go_upto_region 3 with fail
 go_cut [7] from 25 to 38 (fun s7 wx=>s7 = .bool a∧Mid w wx R P k [(A,on n)])
 case first=>
  have q37:=M1.out.rn.c37
  have q16:=M1.out.rn.cask 3 _ rfl
  have qa3:=cellN M1.out (.head _) 3 _ rfl
  have HMZ:Hid (∀ n',Mid w (w1.drewN n') R P k [(A,on n)]):=qh fun n'=>M1.out.grown (grown_drewN (grown_refl _ none) n')
  obtain ⟨wt,hwt⟩:∃ x,k.wt=x:=⟨_,rfl⟩
  have HA:Hid (a=(wt && (k.ask.b == n.b))):=qh (by rw [← HAW.out,← hwt];unfold aw;rfl)
  rw [hwt] at q37
  clear hwt
  cases wt
  ·go_quiet (fail)
   go_wp2_with fail
   go_meet
   exact ⟨by rw [HA.out];rfl,HMZ.out _⟩
  ·go_quiet (fail)
   go_wp2_with fail
   go_meet
   exact ⟨by rw [HA.out];rfl,HMZ.out _⟩
 case rest=>
  obtain ⟨rfl,hm⟩:=hcut
  obtain ⟨W2,h2⟩:∃ x,x=wc:=⟨_,rfl⟩
  subst h2
  have M2:=qh hm
  clear hm M1 HK
  have qk:=cellN M2.out (.head _) 0 _ rfl
  have r0:=rangeN M2.out (.head _)
  have szn:=tt.na_size an
  have fdn:=nl.fold_nt an
  go_wp2_with (first
   | ((with_reducible refine tt.load_nt n 3 A ?_ r0 ?_);((rfl)))
   | (go_at_call 119;((with_reducible refine (HAS.out _ _ M2.out).mono ?_);rintro e w3 ⟨rfl,hr3,hk3⟩;have M3:=qh (M2.out.next hr3 hk3);clear hr3 hk3)))
  go_ret3
  rw [HL.out.1,HL.out.2.1,HL.out.2.2.1,HL.out.2.2.2]
  have m4:=M3.out.alloc (na an) 37
  exact ⟨_,rfl,out_one M3.out.kp.size an,m4.rn,m4.kp⟩
end
end Go.Proofs.YtcoimipgilkmbaaGreatDoor.np
