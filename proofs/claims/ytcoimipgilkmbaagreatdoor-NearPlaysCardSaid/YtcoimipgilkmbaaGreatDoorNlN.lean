/-
 What a near answers to one that wants a block: contracts. Conditions: as NlA names them.
-/
import Derived.Test.YtcoimipgilkmbaaGreatDoorTl
import Derived.Test.YtcoimipgilkmbaaGreatDoorNlM
namespace Go.Proofs.YtcoimipgilkmbaaGreatDoor.nl
set_option linter.unusedVariables false
set_option linter.unusedSimpArgs false
set_option maxRecDepth 1000000
set_option maxHeartbeats 16000000
open Go Go.ChangeShapes Go.WideShapes Go.ChangeAt Go.RowKit Go.Shelf
open Go.Proofs.YtcoimipgilkmbaaGreatDoor.nr
open Go.Proofs.YtcoimipgilkmbaaGreatDoor.tt (Cfg Nt na nt zn bare zd fits row tyne lt_of U Tab TabK grown_refl grown_trans grown_alloc grown_setCells grown_drew grown_drewN yes Sl Next flat)
open Go.Proofs.YtcoimipgilkmbaaGreatDoor.kk (Ln St zl la ln cfind cdrop cuse cgoes cwrite cturn cput setAt setOf live fF Shp Cac Kept)
open Go.Proofs.YtcoimipgilkmbaaGreatDoor.bk (Bk rem kills puts putE fd fl Nd Rg dead fresh BkAt)
open Go.Proofs.YtcoimipgilkmbaaGreatDoor.mrk (Ms rdS wrS meets addE Dom MkAt)
open Go.Proofs.YtcoimipgilkmbaaGreatDoor.de (Dl sT gE rF aD LAt)
open Go.Proofs.YtcoimipgilkmbaaGreatDoor.oo (ref)
theorem sT_aD (d:Dl) (m:Bool) (x:Int):sT (aD d m x)=sT d:=rfl
theorem ackN_eq (P:Pm) (k:Nr) (n:Nt):ackN P k n=⟨9,P.core,-1,n.b,0,0,hf P k n.b,false,hdat P k n.b,hdat_len P k n.b⟩:=by
 unfold ackN
 by_cases hh:has P k n.b=true
 ·rw [if_pos hh]
  refine tt.Nt.ext rfl rfl rfl rfl rfl rfl ?_ rfl ?_
  ·show true=hf P k n.b
   unfold hf;rw [hh];rfl
  ·show _=hdat P k n.b
   unfold hdat;rw [if_pos hh]
 ·rw [if_neg hh]
  have h0:has P k n.b=false:=by simpa using hh
  cases hl:bk.look k.bs n.b with
  | none=>
   refine tt.Nt.ext rfl rfl rfl rfl rfl rfl ?_ rfl ?_
   ·show false=hf P k n.b
    unfold hf;rw [h0,hl];rfl
   ·show zd=hdat P k n.b
    unfold hdat;rw [if_neg hh,hl];rfl
  | some x=>
   cases hx:x.l
   ·have hfx:fl (some x)=false:=hx
    simp only [Bool.false_eq_true,if_false,hx]
    refine tt.Nt.ext rfl rfl rfl rfl rfl rfl ?_ rfl ?_
    ·show false=hf P k n.b
     unfold hf;rw [h0,hl,hfx];rfl
    ·show zd=hdat P k n.b
     unfold hdat;rw [if_neg hh,hl,hfx,if_neg (by decide)]
   ·have hfx:fl (some x)=true:=hx
    simp only [if_true,hx]
    refine tt.Nt.ext rfl rfl rfl rfl rfl rfl ?_ rfl ?_
    ·show true=hf P k n.b
     unfold hf;rw [h0,hl,hfx];rfl
    ·show x.d=hdat P k n.b
     unfold hdat;rw [if_neg hh,hl,hfx,if_pos rfl];rfl
section
variable {w:World} {L:LL} {P:Pm} {k:Nr} (h:LN w L P k)
include h
theorem asked_no (n:Nt) (hr:rfs k n=true):Calls Tryz.prog 99 #[.pointer (some ⟨L.q,0,none⟩),.agg (na n)] w fun e w'=>∃ s,e = .returned (.tuple #[s,.bool false,.int .i64 0])∧OutN w w' s [refN P k n]∧∃ v,LN w' { L with bv:=v } P { k with d:=aD k.d (met k n) n.st }∧Mv w w' L v:=by
 have m0:=(Mil.of h).alloc (na n) 37
 have M0d:=qh m0.drew
 have c5:=m0.c5
 have c4:=m0.c4
 have q0:=m0.cellN (.head _) 0 _ rfl
 have q3:=m0.cellN (.head _) 3 _ rfl
 have q4:=m0.cellN (.head _) 4 _ rfl
 obtain ⟨W0,hW0⟩:∃ W,w.alloc (.cells (na n) 37)=W:=⟨_,rfl⟩
 rw [hW0] at c5 c4 q0 q3 q4 M0d
 obtain ⟨A,hA⟩:∃ A,w.heap.size=A:=⟨_,rfl⟩
 rw [hA] at q0 q3 q4 M0d
 have HME:Hid (Calls Tryz.prog 141 #[.pointer (some ⟨L.mt,0,none⟩),.int .u8 n.k,.int .i64 n.b] W0.drew fun e w'=>e = .returned (.bool (met k n))∧w'=W0.drew):=qh ((M0d.out.meets n.k n.b).mono fun e w' hh=>⟨hh.1,hh.2.symm⟩)
 have hrf:ref (sT k.d) (met k n)=true:=hr
 have HAS:=qh (M0d.out.asked (met k n) n.st)
 rw [hrf] at HAS
 obtain ⟨mt',hmt⟩:∃ x,met k n=x:=⟨_,rfl⟩
 rw [hmt] at HME HAS ⊢
 obtain ⟨n0,hn0⟩:∃ x,bare 10 P.core (-1) n.b 0 0 false false=x:=⟨_,rfl⟩
 obtain ⟨n1,hn1⟩:∃ x,({ n0 with st:=sT k.d }:Nt)=x:=⟨_,rfl⟩
 have hrn:refN P k n=n1:=by rw [← hn1,← hn0];rfl
 rw [hrn]
 have HN1:=qh hn1
 have HHO:Hid (∀ W v k B,Mil w W L v P k B→_):=qh fun W v k (B:List (Nat × Obj)) (mm:Mil w W L v P k B)=>home_any mm.ln 10 n.b
 simp only [hn0] at HHO
 have HVN:Hid (∀ W v k B,Mil w W L v P k B→(W.alloc (.cells (na zn) 37)).heap[W.heap.size]?=some (.cells (na zn) 37 (0,0))∧Mil w ((W.alloc (.cells (na zn) 37)).setRow W.heap.size (na n0)) L v P k ((W.heap.size,on n0) :: B)):=qh fun W v k B mm=>⟨heap_alloc_new _ _,mm.varN n0⟩
 rw [zn_na] at HVN
 have sz1:=tt.na_size n1
 have fd1:=fold_nt n1
 clear h m0 hr hrf hmt hn0 hn1 hrn
 go_enter Tryz.func99,Tryz.ntmps99
 go_upto_region 1 with fail
 go_still_tail 15,(by kernel_rfl)
 still_call HME.out
 repeat still_step
 refine wpStill_nil ?_
 change wpList _ _ _ _ _ W0.drew
 go_upto_region 3 with (first
  | (go_at_call 140;((with_reducible refine HAS.out.mono ?_);rintro e w1 ⟨rfl,hm1⟩;have M1:=qh hm1;have p3:=hm1.cellN (.head _) 3 _ rfl;clear hm1))
  | (go_at_call 94;((with_reducible refine (HHO.out _ _ _ _ M1.out).mono ?_);rintro e w2 ⟨rfl,hg2⟩;have M2:=qh (HVN.out _ _ _ _ (M1.out.grown hg2));clear hg2))
  | ((with_reducible refine tt.store_any n0 (na zn) 7 28 w2.heap.size ?_ ?_ ?_ ?_ ?_);((rfl));((rfl));((exact M2.out.1));((rfl))))
 obtain ⟨w3,hw3⟩:∃ x,(w2.alloc (.cells (na zn) 37)).setRow w2.heap.size (na n0)=x:=⟨_,rfl⟩
 rw [zn_na] at hw3
 have M3:=qh M2.out.2
 rw [hw3] at M3 ⊢
 obtain ⟨G,hG⟩:∃ x,w2.heap.size=x:=⟨_,rfl⟩
 rw [hG] at M3 ⊢
 have r5:=M3.out.c5
 have HST:Hid (Calls Tryz.prog 28 #[.pointer (some ⟨L.dg,0,none⟩)] w3 fun e W'=>e = .returned (.int .u64 (sT k.d))∧w3=W'):=qh M3.out.stamp
 have g4:=M3.out.cellN (.head _) 4 _ rfl
 have f4:w3.frozen? ⟨G,4,none⟩=false:=frozen_of_row _ _ _ _ _ (M3.out.hs _ (.head _))
 have M4:=qh (M3.out.put (i:=0) rfl (kk.grown_setCell w3 G 4 (.int .u64 (sT k.d))) (set_st (M3.out.hs _ (.head _)) (sT k.d)))
 rw [HN1.out] at M4
 have rN:=M4.out.rangeN (.head _)
 have HS1:Hid (∀ W v B,Mil w W L v P { k with d:=aD k.d mt' n.st } B→_):=qh fun W v B mm=>mm.one n1
 go_wp2_with (first
  | (go_at_call 28;((with_reducible refine HST.out.mono ?_);rintro e w5 ⟨rfl,rfl⟩))
  | ((with_reducible refine tt.load_nt n1 7 G ?_ rN ?_);((rfl))))
 go_ret3
 have M5:=HS1.out _ _ _ M4.out
 have hz:(w3.setCell ⟨G,4,none⟩ (.int .u64 (sT k.d))).heap.size=w3.heap.size:=by simp [World.setCell]
 rw [hz] at M5
 exact ⟨_,rfl,M5.2,_,M5.1.ln,M5.1.mv⟩
theorem asked_yes (n:Nt) (hr:rfs k n=false) (hk:n.k=4 ∨ n.k=5):Calls Tryz.prog 99 #[.pointer (some ⟨L.q,0,none⟩),.agg (na n)] w fun e w'=>∃ s,e = .returned (.tuple #[s,.bool false,.int .i64 0])∧OutN w w' s [ackN P k n]∧∃ v,LN w' { L with bv:=v } P { k with d:=aD k.d (met k n) n.st,bs:=if has P k n.b=true then k.bs else kills k.bs n.b,ss:=if n.k=5 then (cdrop P.c k.ss n.b).1 else (cturn P.c k.ss n.b 1).1 }∧Mv w w' L v:=by
 have m0:=(Mil.of h).alloc (na n) 37
 have M0d:=qh m0.drew
 have c5:=m0.c5
 have c4:=m0.c4
 have q0:=m0.cellN (.head _) 0 _ rfl
 have q3:=m0.cellN (.head _) 3 _ rfl
 have q4:=m0.cellN (.head _) 4 _ rfl
 obtain ⟨W0,hW0⟩:∃ W,w.alloc (.cells (na n) 37)=W:=⟨_,rfl⟩
 rw [hW0] at c5 c4 q0 q3 q4 M0d
 obtain ⟨A,hA⟩:∃ A,w.heap.size=A:=⟨_,rfl⟩
 rw [hA] at q0 q3 q4 M0d
 have HME:Hid (Calls Tryz.prog 141 #[.pointer (some ⟨L.mt,0,none⟩),.int .u8 n.k,.int .i64 n.b] W0.drew fun e w'=>e = .returned (.bool (met k n))∧w'=W0.drew):=qh ((M0d.out.meets n.k n.b).mono fun e w' hh=>⟨hh.1,hh.2.symm⟩)
 have hrf:ref (sT k.d) (met k n)=false:=hr
 have HAS:=qh (M0d.out.asked (met k n) n.st)
 rw [hrf] at HAS
 obtain ⟨mt',hmt⟩:∃ x,met k n=x:=⟨_,rfl⟩
 rw [hmt] at HME HAS ⊢
 obtain ⟨n0,hn0⟩:∃ x,bare 9 P.core (-1) n.b 0 0 false false=x:=⟨_,rfl⟩
 obtain ⟨hb,hhb⟩:∃ x,hf P k n.b=x:=⟨_,rfl⟩
 have hdl:=hdat_len P k n.b
 have hak:=ackN_eq P k n
 have HHA:Hid (∀ W v B,Mil w W L v P { k with d:=aD k.d mt' n.st } B→Calls Tryz.prog 142 #[.pointer (some ⟨L.q,0,none⟩),.int .i64 n.b] W fun e W'=>e = .returned (.tuple #[.agg (row (hdat P k n.b)),.bool hb])∧∃ v',Mil w W' L v' P { k with d:=aD k.d mt' n.st,bs:=if has P k n.b=true then k.bs else kills k.bs n.b } B):=qh fun W v B mm=>(hands_any mm.ln n.b).mono fun e W' ⟨he,v',hl,hv⟩=>⟨by rw [he,← hhb];rfl,v',mm.next hl hv⟩
 obtain ⟨dd,hdd⟩:∃ x,hdat P k n.b=x:=⟨_,rfl⟩
 have hak2:ackN P k n=⟨9,P.core,-1,n.b,0,0,hb,false,dd,by rw [← hdd];exact hdl⟩:=by
  rw [hak]
  refine tt.Nt.ext rfl rfl rfl rfl rfl rfl hhb rfl hdd
 have hd16:dd.length=16:=by rw [← hdd];exact hdl
 rw [hdd] at HHA
 have HD:=qh hd16
 obtain ⟨n1,hn1⟩:∃ x,({ { n0 with d:=dd,hd:=hd16 } with h:=hb }:Nt)=x:=⟨_,rfl⟩
 have han:ackN P k n=n1:=by rw [hak2,← hn1,← hn0];rfl
 rw [han]
 have HN1:=qh hn1
 have HHO:Hid (∀ W v k B,Mil w W L v P k B→_):=qh fun W v k (B:List (Nat × Obj)) (mm:Mil w W L v P k B)=>home_any mm.ln 9 n.b
 simp only [hn0] at HHO
 have HVN:Hid (∀ W v k B,Mil w W L v P k B→(W.alloc (.cells (na zn) 37)).heap[W.heap.size]?=some (.cells (na zn) 37 (0,0))∧Mil w ((W.alloc (.cells (na zn) 37)).setRow W.heap.size (na n0)) L v P k ((W.heap.size,on n0) :: B)):=qh fun W v k B mm=>⟨heap_alloc_new _ _,mm.varN n0⟩
 rw [zn_na] at HVN
 have sz1:=tt.na_size n1
 have fd1:=fold_nt n1
 obtain ⟨bs',hbs⟩:∃ x,(if has P k n.b=true then k.bs else kills k.bs n.b)=x:=⟨_,rfl⟩
 rw [hbs] at HHA ⊢
 have HS1:Hid (∀ W v k B,Mil w W L v P k B→_):=qh fun W v k (B:List (Nat × Obj)) (mm:Mil w W L v P k B)=>mm.one n1
 have HDR:Hid (∀ W v k B,Mil w W L v P k B→_):=qh fun W v k (B:List (Nat × Obj)) (mm:Mil w W L v P k B)=>mm.drop n.b
 have HTU:Hid (∀ W v k B,Mil w W L v P k B→_):=qh fun W v k (B:List (Nat × Obj)) (mm:Mil w W L v P k B)=>mm.turn n.b 1
 have HK:=qh hk
 clear h m0 hr hrf hmt hn0 hn1 hhb hdl hak hdd hak2 han hbs hk
 go_enter Tryz.func99,Tryz.ntmps99
 go_upto_region 1 with fail
 go_still_tail 15,(by kernel_rfl)
 still_call HME.out
 repeat still_step
 refine wpStill_nil ?_
 change wpList _ _ _ _ _ W0.drew
 go_upto_region 6 with (first
  | (go_at_call 140;((with_reducible refine HAS.out.mono ?_);rintro e w1 ⟨rfl,hm1⟩;have M1:=qh hm1;have p3:=hm1.cellN (.head _) 3 _ rfl;clear hm1))
  | (go_at_call 94;((with_reducible refine (HHO.out _ _ _ _ M1.out).mono ?_);rintro e w2 ⟨rfl,hg2⟩;have M2:=qh (HVN.out _ _ _ _ (M1.out.grown hg2));clear hg2))
  | ((with_reducible refine tt.store_any n0 (na zn) 8 40 w2.heap.size ?_ ?_ ?_ ?_ ?_);((rfl));((rfl));((exact M2.out.1));((rfl))))
 obtain ⟨w3,hw3⟩:∃ x,(w2.alloc (.cells (na zn) 37)).setRow w2.heap.size (na n0)=x:=⟨_,rfl⟩
 rw [zn_na] at hw3
 have M3:=qh M2.out.2
 rw [hw3] at M3 ⊢
 obtain ⟨G,hG⟩:∃ x,w2.heap.size=x:=⟨_,rfl⟩
 rw [hG] at M3 ⊢
 have r3:=M3.out.cellN (.tail _ (.head _)) 3 _ rfl
 clear M2 hw3 hG p3
 go_upto_region 7 with (first
  | (go_at_call 142;((with_reducible refine (HHA.out _ _ _ M3.out).mono ?_);rintro e w4 ⟨rfl,v4,hm4⟩;have M4:=qh hm4;have t8:=there_from (hm4.hs _ (.head _)) (o:=8) (n:=16) (by rw [tt.na_size];decide);have M5:=qh (hm4.put (i:=0) rfl (grown_setCells w4 G 8 (dd.map U)) (set_d (hm4.hs _ (.head _)) dd HD.out));have g6:=M5.out.cellN (.head _) 6 _ rfl;have f6:(w4.setCells G 8 (dd.map U)).frozen? ⟨G,6,none⟩=false:=frozen_of_row _ _ _ _ _ (M5.out.hs _ (.head _));have M6:=qh (M5.out.put (i:=0) rfl (kk.grown_setCell (w4.setCells G 8 (dd.map U)) G 6 (.bool hb)) (set_h (M5.out.hs _ (.head _)) hb));clear hm4))
  | ((with_reducible refine store_b dd HD.out 48 46 G 8 ?_ ?_ t8 ?_);((rfl));((rfl))))
 rw [HN1.out] at M6
 obtain ⟨w6,hw6⟩:∃ x,(w4.setCells G 8 (dd.map U)).setCell ⟨G,6,none⟩ (.bool hb)=x:=⟨_,rfl⟩
 rw [hw6] at M6 ⊢
 have s0:=M6.out.cellN (.tail _ (.head _)) 0 _ rfl
 have s2:=M6.out.c2
 have s3:=M6.out.cellN (.tail _ (.head _)) 3 _ rfl
 have M6d:=qh M6.out.drew
 clear M5 M4 t8 g6 f6 hw6 r3
 rcases HK.out with hk | hk
 ·rw [hk] at s0
  have hk5:¬ n.k=5:=by omega
  go_upto_region 8 with fail
  go_still_tail 6,(by kernel_rfl)
  change wpList _ _ _ _ _ w6.drew
  go_wp2_with (first
   | (go_at_call 143;((with_reducible refine (HTU.out _ _ _ _ M6d.out).mono ?_);rintro e w7 ⟨rfl,hm7⟩;have M7:=qh hm7;have rN:=hm7.rangeN (.head _);clear hm7))
   | ((with_reducible refine tt.load_nt n1 8 G ?_ rN ?_);((rfl))))
  go_ret3
  have M8:=HS1.out _ _ _ _ M7.out
  exact ⟨_,rfl,M8.2,_,by first | exact M8.1.ln | (rw [if_neg hk5];exact M8.1.ln),M8.1.mv⟩
 ·rw [hk] at s0
  go_upto_region 9 with fail
  go_still_tail 6,(by kernel_rfl)
  change wpList _ _ _ _ _ w6.drew
  go_wp2_with (first
   | (go_at_call 91;((with_reducible refine (HDR.out _ _ _ _ M6d.out).mono ?_);rintro e w7 ⟨rfl,hm7⟩;have M7:=qh hm7;have rN:=hm7.rangeN (.head _);clear hm7))
   | ((with_reducible refine tt.load_nt n1 8 G ?_ rN ?_);((rfl))))
  go_ret3
  have M8:=HS1.out _ _ _ _ M7.out
  exact ⟨_,rfl,M8.2,_,by first | exact M8.1.ln | (rw [if_pos hk];exact M8.1.ln),M8.1.mv⟩
end
end Go.Proofs.YtcoimipgilkmbaaGreatDoor.nl
