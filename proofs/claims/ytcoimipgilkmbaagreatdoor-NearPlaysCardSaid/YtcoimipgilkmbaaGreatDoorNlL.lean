/-
 What a near hands over; what it answers to what is refused, what is back: contracts. Conditions: as NlA names them.
-/
import Derived.Test.YtcoimipgilkmbaaGreatDoorTl
import Derived.Test.YtcoimipgilkmbaaGreatDoorNlK
namespace Go.Proofs.YtcoimipgilkmbaaGreatDoor.nl
set_option linter.unusedVariables false
set_option linter.unusedSimpArgs false
set_option maxRecDepth 1000000
set_option maxHeartbeats 16000000
open Go Go.ChangeShapes Go.WideShapes Go.ChangeAt Go.RowKit Go.Shelf
open Go.Proofs.YtcoimipgilkmbaaGreatDoor.nr
open Go.Proofs.YtcoimipgilkmbaaGreatDoor.tt (Cfg Nt na nt zn bare zd fits row tyne lt_of U Tab TabK grown_refl grown_trans grown_alloc grown_setCells grown_drew grown_drewN yes Sl Next flat)
open Go.Proofs.YtcoimipgilkmbaaGreatDoor.kk (Ln St zl la ln cfind cdrop cuse cgoes cwrite cturn cput setAt setOf live fF Shp Cac Kept)
open Go.Proofs.YtcoimipgilkmbaaGreatDoor.bk (Bk rem kills puts putE fd fl Nd Rg dead fresh BkAt)
open Go.Proofs.YtcoimipgilkmbaaGreatDoor.mrk (Ms rdS wrS meets addE Dom MkAt)
open Go.Proofs.YtcoimipgilkmbaaGreatDoor.de (Dl sT gE rF aD LAt)
open Go.Proofs.YtcoimipgilkmbaaGreatDoor.oo (ref)
def hf (P:Pm) (k:Nr) (b:Int):Bool:=has P k b || fl (bk.look k.bs b)
def hdat (P:Pm) (k:Nr) (b:Int):List Int:=if has P k b=true then (cfind P.c k.ss b).1.d else if fl (bk.look k.bs b)=true then fd (bk.look k.bs b) else zd
theorem hdat_len (P:Pm) (k:Nr) (b:Int):(hdat P k b).length=16:=by
 unfold hdat
 split
 ·exact (cfind P.c k.ss b).1.h
 ·split
  ·exact bk.fd_len _
  ·rfl
section
variable {w W:World} {L:LL} {v:Value} {P:Pm} {k:Nr} {B:List (Nat × Obj)}
theorem Mil.varB (m:Mil w W L v P k B) {d:List Int} (hd:d.length=16):Mil w ((W.alloc (.cells (row zd) 35)).setCells W.heap.size 0 (d.map U)) L v P k ((W.heap.size,od d) :: B):=
 (m.alloc (row zd) 35).put (i:=0) rfl (grown_setCells _ _ _ _) (filled (heap_alloc_new _ _) (by rw [List.length_map,hd];rfl))
end
section
variable {w:World} {L:LL} {P:Pm} {k:Nr} (h:LN w L P k)
include h
theorem hands_any (b:Int):Calls Tryz.prog 142 #[.pointer (some ⟨L.q,0,none⟩),.int .i64 b] w fun e w'=>e = .returned (.tuple #[.agg (row (hdat P k b)),.bool (hf P k b)])∧∃ v,LN w' { L with bv:=v } P { k with bs:=if has P k b=true then k.bs else kills k.bs b }∧Mv w w' L v:=by
 have H0:=qh ((Mil.of h).alloc (row zd) 35)
 have c2:=H0.out.c2
 have hhas:has P k b=((cfind P.c k.ss b).2 && mw (cfind P.c k.ss b).1):=rfl
 have HF:=qh (H0.out.find b)
 obtain ⟨l,hl⟩:∃ l,(cfind P.c k.ss b).1=l:=⟨_,rfl⟩
 obtain ⟨f,hf0⟩:∃ l,(cfind P.c k.ss b).2=l:=⟨_,rfl⟩
 rw [hl,hf0] at HF hhas
 have hdat0:hdat P k b=if has P k b=true then l.d else if fl (bk.look k.bs b)=true then fd (bk.look k.bs b) else zd:=by unfold hdat;rw [hl]
 have hhf:hf P k b=(has P k b || fl (bk.look k.bs b)):=rfl
 have HVL:Hid (∀ W v B,Mil w W L v P k B→(W.alloc (.cells (la zl) 50)).heap[W.heap.size]?=some (.cells (la zl) 50 (0,0))∧Mil w ((W.alloc (.cells (la zl) 50)).setRow W.heap.size (la l)) L v P k ((W.heap.size,ol l) :: B)):=qh fun W v B mm=>⟨heap_alloc_new _ _,mm.varL l⟩
 have HMW:=qh fun W=>maywrite_any l W
 have hdd:=bk.fd_len (bk.look k.bs b)
 have HVB:Hid (∀ W v B,Mil w W L v P k B→(W.alloc (.cells (row zd) 35)).there W.heap.size 0 16∧Mil w ((W.alloc (.cells (row zd) 35)).setCells W.heap.size 0 ((fd (bk.look k.bs b)).map U)) L v P k ((W.heap.size,od (fd (bk.look k.bs b))) :: B)):=qh fun W v B mm=>⟨there_at (heap_alloc_new _ _) (by exact Nat.le_refl _),mm.varB hdd⟩
 have HBF:Hid (∀ W v B,Mil w W L v P k B→_):=qh fun W v B mm=>mm.bfind b
 have HBK:Hid (∀ W v B,Mil w W L v P k B→_):=qh fun W v B mm=>mm.bkill b
 obtain ⟨bi,hbi⟩:∃ l,(bk.look k.bs b).isSome=l:=⟨_,rfl⟩
 obtain ⟨bl,hbl⟩:∃ l,fl (bk.look k.bs b)=l:=⟨_,rfl⟩
 obtain ⟨bd,hbd⟩:∃ l,fd (bk.look k.bs b)=l:=⟨_,rfl⟩
 rw [hbd] at hdat0 hdd HVB
 rw [hbl] at hdat0 hhf
 simp only [hbi,hbl,hbd] at HBF HBK
 have HDD:=qh hdd
 have hld16:=qh l.h
 have HZL:Hid (la zl=_):=qh kk.zl_la
 have HZB:Hid (row zd=_):=qh bk.zrow
 rw [HZL.out] at HVL
 rw [HZB.out] at HVB c2 HF
 have hzl:zd.length=16:=rfl
 obtain ⟨zz,hzz⟩:∃ z,zd=z:=⟨_,rfl⟩
 rw [hzz] at HZB hdat0 hzl
 have HZD:=qh hzl
 cases f
 ·have e0:has P k b=false:=by rw [hhas];rfl
  rw [e0,if_neg (show ¬ (false=true) by decide)] at hdat0
  rw [e0] at hhf
  rw [hhf,hdat0,e0,if_neg (show ¬ (false=true) by decide),Bool.false_or]
  cases bl
  ·rw [if_neg (show ¬ (false=true) by decide)]
   clear h hhas hl hf0 hdat0 hhf hdd hbi hbl hbd hzl hzz e0
   go_enter Tryz.func142,Tryz.ntmps142
   go_wp2_with (first
    | (go_at_call 58;((with_reducible refine HF.out.mono ?_);rintro e w1 ⟨rfl,hm1⟩;have M1:=qh (HVL.out _ _ _ hm1);have p3:=M1.out.2.c3;clear hm1))
    | ((with_reducible refine kk.store_any l zl 6 18 w1.heap.size ?_ ?_ ?_ ?_);((rfl));((rfl));((exact M1.out.1)))
    | (go_at_call 59;((with_reducible refine (HBF.out _ _ _ M1.out.2).mono ?_);rintro e w3 ⟨rfl,v3,hm3⟩;have M3:=qh (HVB.out _ _ _ hm3);have ht3:=M3.out.1;have q3:=M3.out.2.c3;clear hm3))
    | ((with_reducible refine store_b bd HDD.out 8 34 w3.heap.size 0 ?_ ?_ ht3 ?_);((rfl));((rfl)))
    | (go_at_call 170;((with_reducible refine (HBK.out _ _ _ M3.out.2).mono ?_);rintro e w5 ⟨rfl,v5,hm5⟩;have M5:=qh hm5;have b5:=hm5.hs _ (.tail _ (.tail _ (.head _)));have ht5:=there_at b5 (n:=16) (by exact Nat.le_refl _);clear hm5))
    | ((with_reducible refine store_b zz HZD.out 4 44 w.heap.size 0 ?_ ?_ ht5 ?_);((rfl));((exact congrArg Value.agg HZB.out.symm))))
   have M6:=M5.out.put (i:=2) rfl (grown_setCells w5 w.heap.size 0 (zz.map U)) (filled (M5.out.hs _ (.tail _ (.tail _ (.head _)))) (by rw [List.length_map,HZD.out];rfl))
   exact ret_bl2 rfl (d:=zz) HZD.out (g:=w.heap.size) rfl rfl (M6.rangeB (.tail _ (.tail _ (.head _)))) ⟨rfl,v5,M6.ln,M6.mv⟩
  ·rw [if_pos rfl]
   clear h hhas hl hf0 hdat0 hhf hdd hbi hbl hbd hzl hzz e0
   go_enter Tryz.func142,Tryz.ntmps142
   go_wp2_with (first
    | (go_at_call 58;((with_reducible refine HF.out.mono ?_);rintro e w1 ⟨rfl,hm1⟩;have M1:=qh (HVL.out _ _ _ hm1);have p3:=M1.out.2.c3;clear hm1))
    | ((with_reducible refine kk.store_any l zl 6 18 w1.heap.size ?_ ?_ ?_ ?_);((rfl));((rfl));((exact M1.out.1)))
    | (go_at_call 59;((with_reducible refine (HBF.out _ _ _ M1.out.2).mono ?_);rintro e w3 ⟨rfl,v3,hm3⟩;have M3:=qh (HVB.out _ _ _ hm3);have ht3:=M3.out.1;have q3:=M3.out.2.c3;clear hm3))
    | ((with_reducible refine store_b bd HDD.out 8 34 w3.heap.size 0 ?_ ?_ ht3 ?_);((rfl));((rfl)))
    | (go_at_call 170;((with_reducible refine (HBK.out _ _ _ M3.out.2).mono ?_);rintro e w5 ⟨rfl,v5,hm5⟩;have M5:=qh hm5;have b5:=hm5.hs _ (.tail _ (.tail _ (.head _)));have ht5:=there_at b5 (n:=16) (by exact Nat.le_refl _);have r5:=hm5.rangeB (.head _);clear hm5))
    | ((with_reducible refine load_b bd HDD.out 8 w3.heap.size 0 ?_ r5 ?_);((rfl)))
    | ((with_reducible refine store_b bd HDD.out 4 45 w.heap.size 0 ?_ ?_ ht5 ?_);((rfl));((rfl))))
   have M6:=M5.out.put (i:=2) rfl (grown_setCells w5 w.heap.size 0 (bd.map U)) (filled (M5.out.hs _ (.tail _ (.tail _ (.head _)))) (by rw [List.length_map,HDD.out];rfl))
   exact ret_bl2 rfl (d:=bd) HDD.out (g:=w.heap.size) rfl rfl (M6.rangeB (.tail _ (.tail _ (.head _)))) ⟨rfl,v5,M6.ln,M6.mv⟩
 ·obtain ⟨t,nn,HT,hagg,hsize,hld,hsz,hst⟩:=kk.named2
  have hld2:=hld
  clear hld hsz hst
  cases hm:mw l
  ·rw [hm] at HMW hhas
   have e0:has P k b=false:=by rw [hhas];rfl
   rw [e0,if_neg (show ¬ (false=true) by decide)] at hdat0
   rw [e0] at hhf
   rw [hhf,hdat0,e0,if_neg (show ¬ (false=true) by decide),Bool.false_or]
   cases bl
   ·rw [if_neg (show ¬ (false=true) by decide)]
    clear h hhas hl hf0 hdat0 hhf hdd hbi hbl hbd hzl hzz e0 hm
    go_enter Tryz.func142,Tryz.ntmps142
    go_upto_region 2 with (first
     | (go_at_call 58;((with_reducible refine HF.out.mono ?_);rintro e w1 ⟨rfl,hm1⟩;have M1:=qh (HVL.out _ _ _ hm1);clear hm1))
     | ((with_reducible refine kk.store_any l zl 6 18 w1.heap.size ?_ ?_ ?_ ?_);((rfl));((rfl));((exact M1.out.1))))
    have hl1:=hld2 w1.heap.size 0 l _ (M1.out.2.rangeL (.head _))
    rw [HT.out.1]
    clear hld2
    go_wp2_with (first
     | (go_at_call 89;((with_reducible refine (HMW.out _).mono ?_);rintro e w2 ⟨rfl,hg2⟩;have M2:=qh (M1.out.2.grown hg2);have p3:=M2.out.c3;clear hg2))
     | (go_at_call 59;((with_reducible refine (HBF.out _ _ _ M2.out).mono ?_);rintro e w3 ⟨rfl,v3,hm3⟩;have M3:=qh (HVB.out _ _ _ hm3);have ht3:=M3.out.1;have q3:=M3.out.2.c3;clear hm3))
     | ((with_reducible refine store_b bd HDD.out 8 34 w3.heap.size 0 ?_ ?_ ht3 ?_);((rfl));((rfl)))
     | (go_at_call 170;((with_reducible refine (HBK.out _ _ _ M3.out.2).mono ?_);rintro e w5 ⟨rfl,v5,hm5⟩;have M5:=qh hm5;have b5:=hm5.hs _ (.tail _ (.tail _ (.head _)));have ht5:=there_at b5 (n:=16) (by exact Nat.le_refl _);clear hm5))
     | ((with_reducible refine store_b zz HZD.out 4 44 w.heap.size 0 ?_ ?_ ht5 ?_);((rfl));((exact congrArg Value.agg HZB.out.symm))))
    have M6:=M5.out.put (i:=2) rfl (grown_setCells w5 w.heap.size 0 (zz.map U)) (filled (M5.out.hs _ (.tail _ (.tail _ (.head _)))) (by rw [List.length_map,HZD.out];rfl))
    exact ret_bl2 rfl (d:=zz) HZD.out (g:=w.heap.size) rfl rfl (M6.rangeB (.tail _ (.tail _ (.head _)))) ⟨rfl,v5,M6.ln,M6.mv⟩
   ·rw [if_pos rfl]
    clear h hhas hl hf0 hdat0 hhf hdd hbi hbl hbd hzl hzz e0 hm
    go_enter Tryz.func142,Tryz.ntmps142
    go_upto_region 2 with (first
     | (go_at_call 58;((with_reducible refine HF.out.mono ?_);rintro e w1 ⟨rfl,hm1⟩;have M1:=qh (HVL.out _ _ _ hm1);clear hm1))
     | ((with_reducible refine kk.store_any l zl 6 18 w1.heap.size ?_ ?_ ?_ ?_);((rfl));((rfl));((exact M1.out.1))))
    have hl1:=hld2 w1.heap.size 0 l _ (M1.out.2.rangeL (.head _))
    rw [HT.out.1]
    clear hld2
    go_wp2_with (first
     | (go_at_call 89;((with_reducible refine (HMW.out _).mono ?_);rintro e w2 ⟨rfl,hg2⟩;have M2:=qh (M1.out.2.grown hg2);have p3:=M2.out.c3;clear hg2))
     | (go_at_call 59;((with_reducible refine (HBF.out _ _ _ M2.out).mono ?_);rintro e w3 ⟨rfl,v3,hm3⟩;have M3:=qh (HVB.out _ _ _ hm3);have ht3:=M3.out.1;have q3:=M3.out.2.c3;clear hm3))
     | ((with_reducible refine store_b bd HDD.out 8 34 w3.heap.size 0 ?_ ?_ ht3 ?_);((rfl));((rfl)))
     | (go_at_call 170;((with_reducible refine (HBK.out _ _ _ M3.out.2).mono ?_);rintro e w5 ⟨rfl,v5,hm5⟩;have M5:=qh hm5;have b5:=hm5.hs _ (.tail _ (.tail _ (.head _)));have ht5:=there_at b5 (n:=16) (by exact Nat.le_refl _);have r5:=hm5.rangeB (.head _);clear hm5))
     | ((with_reducible refine load_b bd HDD.out 8 w3.heap.size 0 ?_ r5 ?_);((rfl)))
     | ((with_reducible refine store_b bd HDD.out 4 45 w.heap.size 0 ?_ ?_ ht5 ?_);((rfl));((rfl))))
    have M6:=M5.out.put (i:=2) rfl (grown_setCells w5 w.heap.size 0 (bd.map U)) (filled (M5.out.hs _ (.tail _ (.tail _ (.head _)))) (by rw [List.length_map,HDD.out];rfl))
    exact ret_bl2 rfl (d:=bd) HDD.out (g:=w.heap.size) rfl rfl (M6.rangeB (.tail _ (.tail _ (.head _)))) ⟨rfl,v5,M6.ln,M6.mv⟩
  ·rw [hm] at HMW hhas
   have e0:has P k b=true:=by rw [hhas];rfl
   rw [e0,if_pos rfl] at hdat0
   rw [e0] at hhf
   rw [hhf,hdat0,e0,if_pos rfl,Bool.true_or]
   clear h hhas hl hf0 hdat0 hhf hdd hbi hbl hbd hzl hzz e0 hm
   go_enter Tryz.func142,Tryz.ntmps142
   go_upto_region 2 with (first
    | (go_at_call 58;((with_reducible refine HF.out.mono ?_);rintro e w1 ⟨rfl,hm1⟩;have M1:=qh (HVL.out _ _ _ hm1);clear hm1))
    | ((with_reducible refine kk.store_any l zl 6 18 w1.heap.size ?_ ?_ ?_ ?_);((rfl));((rfl));((exact M1.out.1))))
   have hl1:=hld2 w1.heap.size 0 l _ (M1.out.2.rangeL (.head _))
   rw [HT.out.1]
   clear hld2
   go_wp2_with (first
    | (go_at_call 89;((with_reducible refine (HMW.out _).mono ?_);rintro e w2 ⟨rfl,hg2⟩;have M2:=qh (M1.out.2.grown hg2);have b5:=M2.out.hs _ (.tail _ (.head _));have ht5:=there_at b5 (n:=16) (by exact Nat.le_refl _);have r5:=M2.out.rangeD (.head _);clear hg2))
    | ((with_reducible refine load_b l.d l.h 25 w1.heap.size 2 ?_ r5 ?_);((rfl)))
    | ((with_reducible refine store_b l.d l.h 4 26 w.heap.size 0 ?_ ?_ ht5 ?_);((rfl));((rfl))))
   have M6:=M2.out.put (i:=1) rfl (grown_setCells w2 w.heap.size 0 (l.d.map U)) (filled (M2.out.hs _ (.tail _ (.head _))) (by rw [List.length_map,l.h];rfl))
   exact ret_bl2 rfl (d:=l.d) l.h (g:=w.heap.size) rfl rfl (M6.rangeB (.tail _ (.head _))) ⟨rfl,_,M6.ln,M6.mv⟩
end
end Go.Proofs.YtcoimipgilkmbaaGreatDoor.nl
