/-
 What goes out of an ask that is not ready: contracts. Conditions: as NlA names them.
-/
import Derived.Test.YtcoimipgilkmbaaGreatDoorTl
import Derived.Test.YtcoimipgilkmbaaGreatDoorNlH
namespace Go.Proofs.YtcoimipgilkmbaaGreatDoor.nl
set_option linter.unusedVariables false
set_option linter.unusedSimpArgs false
set_option maxRecDepth 1000000
set_option maxHeartbeats 16000000
open Go Go.ChangeShapes Go.WideShapes Go.ChangeAt Go.RowKit Go.Shelf
open Go.Proofs.YtcoimipgilkmbaaGreatDoor.nr
open Go.Proofs.YtcoimipgilkmbaaGreatDoor.tt (Cfg Nt na nt zn bare zd fits row tyne lt_of U Tab TabK grown_refl grown_trans grown_alloc grown_setCells grown_drew grown_drewN yes Sl Next flat)
open Go.Proofs.YtcoimipgilkmbaaGreatDoor.kk (Ln St zl la ln cfind cdrop cuse cgoes cwrite cturn cput setAt setOf live fF Shp Cac Kept)
open Go.Proofs.YtcoimipgilkmbaaGreatDoor.bk (Bk rem kills puts putE fd fl Nd Rg dead fresh BkAt)
open Go.Proofs.YtcoimipgilkmbaaGreatDoor.mrk (Ms rdS wrS meets addE Dom MkAt)
open Go.Proofs.YtcoimipgilkmbaaGreatDoor.de (Dl sT gE rF aD LAt)
open Go.Proofs.YtcoimipgilkmbaaGreatDoor.oo (ref)
section
variable {w:World} {L:LL} {P:Pm} {k:Nr} (h:LN w L P k) (kd b:Int)
include h
theorem send_back (hB:(bk.look k.bs b).isSome=true):Calls Tryz.prog 52 #[.pointer (some ⟨L.q,0,none⟩),.int .u8 kd,.int .i64 b] w fun e w'=>e = .returned (.tuple #[.slice none 0 0,.int .i64 110])∧∃ v,LN w' { L with bv:=v } P k∧Mv w w' L v:=by
 have H0:=qh (Mil.of h)
 have c2:=h.c2
 obtain ⟨gl,hgl⟩:∃ l,(cgoes P.c k.ss b).1=l:=⟨_,rfl⟩
 obtain ⟨gf,hgf⟩:∃ l,(cgoes P.c k.ss b).2=l:=⟨_,rfl⟩
 obtain ⟨bi,hbi⟩:∃ l,(bk.look k.bs b).isSome=l:=⟨_,rfl⟩
 obtain ⟨bl,hbl⟩:∃ l,fl (bk.look k.bs b)=l:=⟨_,rfl⟩
 have hdd:=bk.fd_len (bk.look k.bs b)
 have HGO:Hid (∀ W v B,Mil w W L v P k B→Calls Tryz.prog 90 #[.pointer (some ⟨L.c.b,0,none⟩),.int .i64 b] W fun e W'=>e = .returned (.tuple #[.agg (la gl),.bool gf])∧Mil w W' L v P k B):=qh fun W v B mm=>by have:=mm.goes b;rw [hgl,hgf] at this;exact this
 have HBF0:∀ W v B,Mil w W L v P k B→Calls Tryz.prog 59 #[.pointer (some ⟨L.bt,0,none⟩),.int .i64 b] W fun e W'=>e = .returned (.tuple #[.agg (row (fd (bk.look k.bs b))),.bool bl,.bool bi])∧∃ v',Mil w W' L v' P k B:=fun W v B mm=>by have:=mm.bfind b;rw [hbl,hbi] at this;exact this
 obtain ⟨bd,hbd⟩:∃ l,fd (bk.look k.bs b)=l:=⟨_,rfl⟩
 rw [hbd] at HBF0 hdd
 have HBF:=qh HBF0
 have HDD:=qh hdd
 have HVL:Hid (∀ W v B,Mil w W L v P k B→(W.alloc (.cells (la zl) 50)).heap[W.heap.size]?=some (.cells (la zl) 50 (0,0))∧Mil w ((W.alloc (.cells (la zl) 50)).setRow W.heap.size (la gl)) L v P k ((W.heap.size,ol gl) :: B)):=qh fun W v B mm=>⟨heap_alloc_new _ _,mm.varL gl⟩
 have HVB:Hid (∀ W v B,Mil w W L v P k B→(W.alloc (.cells (row zd) 35)).there W.heap.size 0 16∧Mil w ((W.alloc (.cells (row zd) 35)).setCells W.heap.size 0 (bd.map U)) L v P k ((W.heap.size,od bd) :: B)):=qh fun W v B mm=>⟨there_at (heap_alloc_new _ _) (by exact Nat.le_refl _),(mm.alloc (row zd) 35).put (i:=0) rfl (grown_setCells _ _ _ _) (filled (heap_alloc_new _ _) (by rw [List.length_map,hdd];rfl))⟩
 have HZL:Hid (la zl=_):=qh kk.zl_la
 have HZB:Hid (row zd=_):=qh bk.zrow
 rw [HZL.out] at HVL
 rw [HZB.out] at HVB
 have HMW:=qh fun W=>maywrite_any gl W
 rw [hbi] at hB
 subst hB
 clear h hgl hgf hbi hbl hdd hbd HBF0
 go_enter Tryz.func52,Tryz.ntmps52
 go_wp2
 refine wp_scope_jumps 0 (fun _ _=>False) (fun _ _=>0) rfl ?_ ?_
 ·go_wp2_with (first
   | (go_at_call 90;((with_reducible refine (HGO.out _ _ _ H0.out).mono ?_);rintro e w1 ⟨rfl,hm1⟩;have M1:=qh (HVL.out _ _ _ hm1);have q3:=M1.out.2.c3;clear hm1))
   | ((with_reducible refine kk.store_any gl zl 8 20 w1.heap.size ?_ ?_ ?_ ?_);((rfl));((rfl));((exact M1.out.1)))
   | (go_at_call 59;((with_reducible refine (HBF.out _ _ _ M1.out.2).mono ?_);rintro e w3 ⟨rfl,v3,hm3⟩;have M3:=qh (HVB.out _ _ _ hm3);have ht3:=M3.out.1;have rl:=M3.out.2.rangeL (.tail _ (.head _));clear hm3))
   | ((with_reducible refine store_b bd HDD.out 10 29 w3.heap.size 0 ?_ ?_ ht3 ?_);((rfl));((rfl)))
   | ((with_reducible refine kk.load_ln gl 8 w1.heap.size 0 ?_ rl ?_);((rfl)))
   | (go_at_call 89;((with_reducible refine (HMW.out _).mono ?_);rintro e w5 ⟨rfl,hg5⟩;have M5:=qh (M3.out.2.grown hg5);clear hg5)))
  rw [oo.jump_ret]
  go_ret2
  exact ⟨rfl,v3,M3.out.2.ln,M3.out.2.mv⟩
 ·exact fun _ _ hf=>hf.elim
theorem send_full (hB:(bk.look k.bs b).isSome=false) (hG:(cgoes P.c k.ss b).2=true) (hW:mw (cgoes P.c k.ss b).1=true) (hR:k.bs.length=P.m):Calls Tryz.prog 52 #[.pointer (some ⟨L.q,0,none⟩),.int .u8 kd,.int .i64 b] w fun e w'=>e = .returned (.tuple #[.slice none 0 0,.int .i64 110])∧∃ v,LN w' { L with bv:=v } P k∧Mv w w' L v:=by
 have H0:=qh (Mil.of h)
 have c2:=h.c2
 obtain ⟨gl,hgl⟩:∃ l,(cgoes P.c k.ss b).1=l:=⟨_,rfl⟩
 obtain ⟨gf,hgf⟩:∃ l,(cgoes P.c k.ss b).2=l:=⟨_,rfl⟩
 obtain ⟨bi,hbi⟩:∃ l,(bk.look k.bs b).isSome=l:=⟨_,rfl⟩
 obtain ⟨bl,hbl⟩:∃ l,fl (bk.look k.bs b)=l:=⟨_,rfl⟩
 have hdd:=bk.fd_len (bk.look k.bs b)
 have HGO:Hid (∀ W v B,Mil w W L v P k B→Calls Tryz.prog 90 #[.pointer (some ⟨L.c.b,0,none⟩),.int .i64 b] W fun e W'=>e = .returned (.tuple #[.agg (la gl),.bool gf])∧Mil w W' L v P k B):=qh fun W v B mm=>by have:=mm.goes b;rw [hgl,hgf] at this;exact this
 have HBF0:∀ W v B,Mil w W L v P k B→Calls Tryz.prog 59 #[.pointer (some ⟨L.bt,0,none⟩),.int .i64 b] W fun e W'=>e = .returned (.tuple #[.agg (row (fd (bk.look k.bs b))),.bool bl,.bool bi])∧∃ v',Mil w W' L v' P k B:=fun W v B mm=>by have:=mm.bfind b;rw [hbl,hbi] at this;exact this
 obtain ⟨bd,hbd⟩:∃ l,fd (bk.look k.bs b)=l:=⟨_,rfl⟩
 rw [hbd] at HBF0 hdd
 have HBF:=qh HBF0
 have HDD:=qh hdd
 have HVL:Hid (∀ W v B,Mil w W L v P k B→(W.alloc (.cells (la zl) 50)).heap[W.heap.size]?=some (.cells (la zl) 50 (0,0))∧Mil w ((W.alloc (.cells (la zl) 50)).setRow W.heap.size (la gl)) L v P k ((W.heap.size,ol gl) :: B)):=qh fun W v B mm=>⟨heap_alloc_new _ _,mm.varL gl⟩
 have HVB:Hid (∀ W v B,Mil w W L v P k B→(W.alloc (.cells (row zd) 35)).there W.heap.size 0 16∧Mil w ((W.alloc (.cells (row zd) 35)).setCells W.heap.size 0 (bd.map U)) L v P k ((W.heap.size,od bd) :: B)):=qh fun W v B mm=>⟨there_at (heap_alloc_new _ _) (by exact Nat.le_refl _),(mm.alloc (row zd) 35).put (i:=0) rfl (grown_setCells _ _ _ _) (filled (heap_alloc_new _ _) (by rw [List.length_map,hdd];rfl))⟩
 have HZL:Hid (la zl=_):=qh kk.zl_la
 have HZB:Hid (row zd=_):=qh bk.zrow
 rw [HZL.out] at HVL
 rw [HZB.out] at HVB
 have HMW:=qh fun W=>maywrite_any gl W
 rw [hbi] at hB
 rw [hgf] at hG
 rw [hgl] at hW
 subst hB hG
 rw [hW] at HMW
 have HRM:Hid (∀ W v B,Mil w W L v P k B→Calls Tryz.prog 92 #[.pointer (some ⟨L.bt,0,none⟩)] W fun e W'=>e = .returned (.int .i64 0)∧Mil w W' L v P k B):=qh fun W v B mm=>by have:=mm.broom;rw [hR,Int.sub_self] at this;exact this
 clear h hgl hgf hbi hbl hdd hbd HBF0 hW hR
 go_enter Tryz.func52,Tryz.ntmps52
 go_wp2
 refine wp_scope_jumps 0 (fun _ _=>False) (fun _ _=>0) rfl ?_ ?_
 ·go_wp2_with (first
   | (go_at_call 90;((with_reducible refine (HGO.out _ _ _ H0.out).mono ?_);rintro e w1 ⟨rfl,hm1⟩;have M1:=qh (HVL.out _ _ _ hm1);have q3:=M1.out.2.c3;clear hm1))
   | ((with_reducible refine kk.store_any gl zl 8 20 w1.heap.size ?_ ?_ ?_ ?_);((rfl));((rfl));((exact M1.out.1)))
   | (go_at_call 59;((with_reducible refine (HBF.out _ _ _ M1.out.2).mono ?_);rintro e w3 ⟨rfl,v3,hm3⟩;have M3:=qh (HVB.out _ _ _ hm3);have ht3:=M3.out.1;have rl:=M3.out.2.rangeL (.tail _ (.head _));clear hm3))
   | ((with_reducible refine store_b bd HDD.out 10 29 w3.heap.size 0 ?_ ?_ ht3 ?_);((rfl));((rfl)))
   | ((with_reducible refine kk.load_ln gl 8 w1.heap.size 0 ?_ rl ?_);((rfl)))
   | (go_at_call 89;((with_reducible refine (HMW.out _).mono ?_);rintro e w5 ⟨rfl,hg5⟩;have M5:=qh (M3.out.2.grown hg5);have s3:=M5.out.c3;clear hg5))
   | (go_at_call 92;((with_reducible refine (HRM.out _ _ _ M5.out).mono ?_);rintro e w6 ⟨rfl,hm6⟩;have M6:=qh hm6;clear hm6)))
  rw [oo.jump_ret]
  go_ret2
  exact ⟨rfl,v3,M6.out.ln,M6.out.mv⟩
 ·exact fun _ _ hf=>hf.elim
theorem send_free (hB:(bk.look k.bs b).isSome=false) (hG:(cgoes P.c k.ss b).2=false):Calls Tryz.prog 52 #[.pointer (some ⟨L.q,0,none⟩),.int .u8 kd,.int .i64 b] w fun e w'=>∃ s,e = .returned (.tuple #[s,.int .i64 0])∧OutN w w' s [bare kd P.core (-1) b (sT k.d) 0 false false]∧∃ v,LN w' { L with bv:=v } P { k with ask:=bare kd P.core (-1) b (sT k.d) 0 false false,wt:=true }∧Mv w w' L v:=by
 have H0:=qh (Mil.of h)
 have c2:=h.c2
 obtain ⟨gl,hgl⟩:∃ l,(cgoes P.c k.ss b).1=l:=⟨_,rfl⟩
 obtain ⟨gf,hgf⟩:∃ l,(cgoes P.c k.ss b).2=l:=⟨_,rfl⟩
 obtain ⟨bi,hbi⟩:∃ l,(bk.look k.bs b).isSome=l:=⟨_,rfl⟩
 obtain ⟨bl,hbl⟩:∃ l,fl (bk.look k.bs b)=l:=⟨_,rfl⟩
 have hdd:=bk.fd_len (bk.look k.bs b)
 have HGO:Hid (∀ W v B,Mil w W L v P k B→Calls Tryz.prog 90 #[.pointer (some ⟨L.c.b,0,none⟩),.int .i64 b] W fun e W'=>e = .returned (.tuple #[.agg (la gl),.bool gf])∧Mil w W' L v P k B):=qh fun W v B mm=>by have:=mm.goes b;rw [hgl,hgf] at this;exact this
 have HBF0:∀ W v B,Mil w W L v P k B→Calls Tryz.prog 59 #[.pointer (some ⟨L.bt,0,none⟩),.int .i64 b] W fun e W'=>e = .returned (.tuple #[.agg (row (fd (bk.look k.bs b))),.bool bl,.bool bi])∧∃ v',Mil w W' L v' P k B:=fun W v B mm=>by have:=mm.bfind b;rw [hbl,hbi] at this;exact this
 obtain ⟨bd,hbd⟩:∃ l,fd (bk.look k.bs b)=l:=⟨_,rfl⟩
 rw [hbd] at HBF0 hdd
 have HBF:=qh HBF0
 have HDD:=qh hdd
 have HVL:Hid (∀ W v B,Mil w W L v P k B→(W.alloc (.cells (la zl) 50)).heap[W.heap.size]?=some (.cells (la zl) 50 (0,0))∧Mil w ((W.alloc (.cells (la zl) 50)).setRow W.heap.size (la gl)) L v P k ((W.heap.size,ol gl) :: B)):=qh fun W v B mm=>⟨heap_alloc_new _ _,mm.varL gl⟩
 have HVB:Hid (∀ W v B,Mil w W L v P k B→(W.alloc (.cells (row zd) 35)).there W.heap.size 0 16∧Mil w ((W.alloc (.cells (row zd) 35)).setCells W.heap.size 0 (bd.map U)) L v P k ((W.heap.size,od bd) :: B)):=qh fun W v B mm=>⟨there_at (heap_alloc_new _ _) (by exact Nat.le_refl _),(mm.alloc (row zd) 35).put (i:=0) rfl (grown_setCells _ _ _ _) (filled (heap_alloc_new _ _) (by rw [List.length_map,hdd];rfl))⟩
 have HZL:Hid (la zl=_):=qh kk.zl_la
 have HZB:Hid (row zd=_):=qh bk.zrow
 rw [HZL.out] at HVL
 rw [HZB.out] at HVB
 have HMW:=qh fun W=>maywrite_any gl W
 obtain ⟨n0,hn0⟩:∃ n,bare kd P.core (-1) b 0 0 false false=n:=⟨_,rfl⟩
 have HN0:=qh hn0
 obtain ⟨n1,hn1⟩:∃ n,({ n0 with st:=sT k.d }:Nt)=n:=⟨_,rfl⟩
 have HN1:=qh hn1
 have hne:n1=bare kd P.core (-1) b (sT k.d) 0 false false:=by rw [← hn1,← hn0];rfl
 rw [← hne]
 obtain ⟨i0,hi,hz0,hz1,hz2⟩:=info_parts infoN
 rw [hbi] at hB
 rw [hgf] at hG
 subst hB hG
 clear h hgl hgf hbi hbl hdd hbd HBF0 hn0 hn1 hne
 go_enter Tryz.func52,Tryz.ntmps52
 go_wp2
 refine wp_scope_jumps 0 (fun a' w'=>(∃ v B,Mil w w' L v P k B)∧∃ x8 x9 x10 x11 x12 x13 x14 x15 x16 x17 x18 x19 x20 x21 x22 x23 x24 x25 x26 x27 x28 x29 x30 x31 x32 x33 x34 x35 x36 x37 x38 x39 x40 x41 x42 x43 x44 x45 x46 x47 x48 x49 x50 x51 x52 x53 x54 x55 x56 x57 x58 x59 x60 x61 x62 x63 x64 x65 x66 x67 x68 x69 x70 x71 x72 x73 x74 x75 x76 x77 x78 x79,a'={ tmps:=#[.pointer (some ⟨L.q,0,none⟩),.int .u8 kd,.int .i64 b,undef,undef,undef,.slice none 0 0,.int .i64 0,x8,x9,x10,x11,x12,x13,x14,x15,x16,x17,x18,x19,x20,x21,x22,x23,x24,x25,x26,x27,x28,x29,x30,x31,x32,x33,x34,x35,x36,x37,x38,x39,x40,x41,x42,x43,x44,x45,x46,x47,x48,x49,x50,x51,x52,x53,x54,x55,x56,x57,x58,x59,x60,x61,x62,x63,x64,x65,x66,x67,x68,x69,x70,x71,x72,x73,x74,x75,x76,x77,x78,x79],defers:=[] }) (fun _ _=>0) rfl ?_ ?_
 ·go_wp2_with (first
   | (go_at_call 90;((with_reducible refine (HGO.out _ _ _ H0.out).mono ?_);rintro e w1 ⟨rfl,hm1⟩;have M1:=qh (HVL.out _ _ _ hm1);have q3:=M1.out.2.c3;clear hm1))
   | ((with_reducible refine kk.store_any gl zl 8 20 w1.heap.size ?_ ?_ ?_ ?_);((rfl));((rfl));((exact M1.out.1)))
   | (go_at_call 59;((with_reducible refine (HBF.out _ _ _ M1.out.2).mono ?_);rintro e w3 ⟨rfl,v3,hm3⟩;have M3:=qh (HVB.out _ _ _ hm3);have ht3:=M3.out.1;have rl:=M3.out.2.rangeL (.tail _ (.head _));clear hm3))
   | ((with_reducible refine store_b bd HDD.out 10 29 w3.heap.size 0 ?_ ?_ ht3 ?_);((rfl));((rfl)))
   | ((with_reducible refine kk.load_ln gl 8 w1.heap.size 0 ?_ rl ?_);((rfl)))
   | (go_at_call 89;((with_reducible refine (HMW.out _).mono ?_);rintro e w5 ⟨rfl,hg5⟩;have M5:=qh (M3.out.2.grown hg5);clear hg5)))
  go_step3
  exact ⟨rfl,⟨v3,_,M3.out.2⟩,_,_,_,_,_,_,_,_,_,_,_,_,_,_,_,_,_,_,_,_,_,_,_,_,_,_,_,_,_,_,_,_,_,_,_,_,_,_,_,_,_,_,_,_,_,_,_,_,_,_,_,_,_,_,_,_,_,_,_,_,_,_,_,_,_,_,_,_,_,_,_,_,rfl⟩
 ·rintro a' w' ⟨⟨v5,B5,hm5⟩,x8,x9,x10,x11,x12,x13,x14,x15,x16,x17,x18,x19,x20,x21,x22,x23,x24,x25,x26,x27,x28,x29,x30,x31,x32,x33,x34,x35,x36,x37,x38,x39,x40,x41,x42,x43,x44,x45,x46,x47,x48,x49,x50,x51,x52,x53,x54,x55,x56,x57,x58,x59,x60,x61,x62,x63,x64,x65,x66,x67,x68,x69,x70,x71,x72,x73,x74,x75,x76,x77,x78,x79,rfl⟩
  have M5:=qh hm5
  have HO:=qh (OutN.nil w w')
  clear hm5
  have HTO:=qh (home_any M5.out.ln kd b)
  rw [HN0.out] at HTO
  go_upto_region 12 with (first
   | (go_at_call 94;((with_reducible refine HTO.out.mono ?_);rintro e x1 ⟨rfl,hx1⟩;have X1:=qh (M5.out.grown hx1);have HO1:=qh (HO.out.grown hx1);have ht1:=X1.out.thereQ;clear hx1))
   | ((with_reducible refine store_o n0 63 61 L.q 6 ?_ ?_ ht1 ?_);((rfl));((rfl))))
  have X2:=qh (X1.out.ask n0)
  have HO2:=qh (OutN.next X1.out.ln HO1.out (Mv.one (L:={ L with bv:=v5 }) (grown_setCells x1 L.q 6 (nt n0)) (any_q _)))
  obtain ⟨x2,hx2⟩:∃ x,x1.setCells L.q 6 (nt n0)=x:=⟨_,rfl⟩
  rw [hx2] at X2 HO2 ⊢
  clear hx2
  have e5:=X2.out.c5
  have e10:x2.cell? ⟨L.q,10,none⟩=some (.int .u64 n0.st):=X2.out.cask 4 _ (by rw [show shown _=n0 from rfl];rfl)
  have f10:x2.frozen? ⟨L.q,10,none⟩=false:=frozen_of_row _ _ _ _ _ X2.out.ln.blk
  have HSS:=qh X2.out.stamp
  have X3:=qh (X2.out.stamped rfl (sT k.d))
  have r6:(x2.setCell ⟨L.q,10,none⟩ (.int .u64 (sT k.d))).rangeAt L.q 6 (nt n1):=by have:=X3.out.cask;rw [show shown _={ n0 with st:=sT k.d } from rfl,HN1.out] at this;exact this
  have HS3:=qh ((OutN.next X2.out.ln HO2.out (Mv.one (L:={ L with bv:=v5 }) (kk.grown_setCell x2 L.q 10 (.int .u64 (sT k.d))) (any_q _))).grown (grown_alloc (grown_refl _ none) (.cells (na n1) 37)))
  have XO:=qh (X3.out.one n1)
  have HB3:Hid (((x2.setCell ⟨L.q,10,none⟩ (.int .u64 (sT k.d))).alloc (.cells (na n1) 37)).heap[(x2.setCell ⟨L.q,10,none⟩ (.int .u64 (sT k.d))).heap.size]?=some (.cells (na n1) 37 (0,0))):=qh (heap_alloc_new _ _)
  have hzx:(x2.setCell ⟨L.q,10,none⟩ (.int .u64 (sT k.d))).heap.size=x2.heap.size:=by simp [World.setCell]
  rw [hzx] at HB3
  have HSL:Hid (Sl ((x2.setCell ⟨L.q,10,none⟩ (.int .u64 (sT k.d))).alloc (.cells (na n1) 37)) 37 24 (.slice none 0 0) 0 (flat nt [])):=qh HS3.out.sl
  have HSC:=qh (tt.src_one' (P:=Tryz.prog) (t:=43) ((x2.setCell ⟨L.q,10,none⟩ (.int .u64 (sT k.d))).alloc (.cells (na n1) 37)) x2.heap.size (na n1) _ (nt n1) 24 Tryz.underlying43 HB3.out rfl (tt.nt_len n1) (tt.nt_one n1))
  have sz1:=tt.na_size n1
  have fd1:=fold_nt n1
  go_wp2_with (first
   | (go_at_call 28;((with_reducible refine HSS.out.mono ?_);rintro e x4 ⟨rfl,rfl⟩))
   | ((with_reducible refine load_o n1 76 L.q 6 ?_ r6 ?_);((rfl)))
   | ((with_reducible refine tt.append_sl 43 37 24 i0 (.agg (na zn)) 112 _ _ Tryz.underlying43 hi hz0 hz1 hz2 zn_cells (.slice none 0 0) 0 (flat nt []) ?_ HSL.out (.slice (some ⟨x2.heap.size,0,none⟩) 1 1) 1 (nt n1) ?_ HSC.out ?_ ?_ ?_);(rfl);(rfl);(unfold maxLen;omega);(omega);(intro s5 x5 hs5 hg5 hn5;have HS5:=qh hs5;have X5:=qh (XO.out.1.notes hg5 (fun g hg=>⟨HS3.out.own g hg,by obtain ⟨cur,hc⟩:=HS3.out.sl.type g hg;exact ⟨_,_,hc⟩⟩));have HO5:=qh (hn5.ge XO.out.1.mv.kp.size HS3.out.own);clear hs5 hg5 hn5)))
  rw [oo.jump_ret]
  go_ret2
  exact ⟨s5,rfl,⟨by have:=HS5.out;rw [← tt.flat_single nt n1,← tt.flat_append] at this;exact this,HO5.out⟩,v5,by have:=X5.out.ln;rw [show ({ k with ask:={ n0 with st:=sT k.d },wt:=true }:Nr)={ k with ask:=n1,wt:=true } from by rw [HN1.out]] at this;exact this,X5.out.mv⟩
theorem send_shared (hB:(bk.look k.bs b).isSome=false) (hG:(cgoes P.c k.ss b).2=true) (hW:mw (cgoes P.c k.ss b).1=false):Calls Tryz.prog 52 #[.pointer (some ⟨L.q,0,none⟩),.int .u8 kd,.int .i64 b] w fun e w'=>∃ s,e = .returned (.tuple #[s,.int .i64 0])∧OutN w w' s [bare kd P.core (-1) b (sT k.d) 0 false false]∧∃ v,LN w' { L with bv:=v } P { k with ss:=(cdrop P.c k.ss (cgoes P.c k.ss b).1.b).1,ask:=bare kd P.core (-1) b (sT k.d) 0 false false,wt:=true }∧Mv w w' L v:=by
 have H0:=qh (Mil.of h)
 have c2:=h.c2
 obtain ⟨gl,hgl⟩:∃ l,(cgoes P.c k.ss b).1=l:=⟨_,rfl⟩
 obtain ⟨gf,hgf⟩:∃ l,(cgoes P.c k.ss b).2=l:=⟨_,rfl⟩
 obtain ⟨bi,hbi⟩:∃ l,(bk.look k.bs b).isSome=l:=⟨_,rfl⟩
 obtain ⟨bl,hbl⟩:∃ l,fl (bk.look k.bs b)=l:=⟨_,rfl⟩
 have hdd:=bk.fd_len (bk.look k.bs b)
 have HGO:Hid (∀ W v B,Mil w W L v P k B→Calls Tryz.prog 90 #[.pointer (some ⟨L.c.b,0,none⟩),.int .i64 b] W fun e W'=>e = .returned (.tuple #[.agg (la gl),.bool gf])∧Mil w W' L v P k B):=qh fun W v B mm=>by have:=mm.goes b;rw [hgl,hgf] at this;exact this
 have HBF0:∀ W v B,Mil w W L v P k B→Calls Tryz.prog 59 #[.pointer (some ⟨L.bt,0,none⟩),.int .i64 b] W fun e W'=>e = .returned (.tuple #[.agg (row (fd (bk.look k.bs b))),.bool bl,.bool bi])∧∃ v',Mil w W' L v' P k B:=fun W v B mm=>by have:=mm.bfind b;rw [hbl,hbi] at this;exact this
 obtain ⟨bd,hbd⟩:∃ l,fd (bk.look k.bs b)=l:=⟨_,rfl⟩
 rw [hbd] at HBF0 hdd
 have HBF:=qh HBF0
 have HDD:=qh hdd
 have HVL:Hid (∀ W v B,Mil w W L v P k B→(W.alloc (.cells (la zl) 50)).heap[W.heap.size]?=some (.cells (la zl) 50 (0,0))∧Mil w ((W.alloc (.cells (la zl) 50)).setRow W.heap.size (la gl)) L v P k ((W.heap.size,ol gl) :: B)):=qh fun W v B mm=>⟨heap_alloc_new _ _,mm.varL gl⟩
 have HVB:Hid (∀ W v B,Mil w W L v P k B→(W.alloc (.cells (row zd) 35)).there W.heap.size 0 16∧Mil w ((W.alloc (.cells (row zd) 35)).setCells W.heap.size 0 (bd.map U)) L v P k ((W.heap.size,od bd) :: B)):=qh fun W v B mm=>⟨there_at (heap_alloc_new _ _) (by exact Nat.le_refl _),(mm.alloc (row zd) 35).put (i:=0) rfl (grown_setCells _ _ _ _) (filled (heap_alloc_new _ _) (by rw [List.length_map,hdd];rfl))⟩
 have HZL:Hid (la zl=_):=qh kk.zl_la
 have HZB:Hid (row zd=_):=qh bk.zrow
 rw [HZL.out] at HVL
 rw [HZB.out] at HVB
 have HMW:=qh fun W=>maywrite_any gl W
 obtain ⟨n0,hn0⟩:∃ n,bare kd P.core (-1) b 0 0 false false=n:=⟨_,rfl⟩
 have HN0:=qh hn0
 obtain ⟨n1,hn1⟩:∃ n,({ n0 with st:=sT k.d }:Nt)=n:=⟨_,rfl⟩
 have HN1:=qh hn1
 have hne:n1=bare kd P.core (-1) b (sT k.d) 0 false false:=by rw [← hn1,← hn0];rfl
 rw [← hne]
 obtain ⟨i0,hi,hz0,hz1,hz2⟩:=info_parts infoN
 rw [hbi] at hB
 rw [hgf] at hG
 rw [hgl] at hW ⊢
 subst hB hG
 rw [hW] at HMW
 clear h hgl hgf hbi hbl hdd hbd HBF0 hn0 hn1 hne hW
 go_enter Tryz.func52,Tryz.ntmps52
 go_wp2
 refine wp_scope_jumps 0 (fun a' w'=>(∃ v B,Mil w w' L v P { k with ss:=(cdrop P.c k.ss gl.b).1 } B)∧∃ x8 x9 x10 x11 x12 x13 x14 x15 x16 x17 x18 x19 x20 x21 x22 x23 x24 x25 x26 x27 x28 x29 x30 x31 x32 x33 x34 x35 x36 x37 x38 x39 x40 x41 x42 x43 x44 x45 x46 x47 x48 x49 x50 x51 x52 x53 x54 x55 x56 x57 x58 x59 x60 x61 x62 x63 x64 x65 x66 x67 x68 x69 x70 x71 x72 x73 x74 x75 x76 x77 x78 x79,a'={ tmps:=#[.pointer (some ⟨L.q,0,none⟩),.int .u8 kd,.int .i64 b,undef,undef,undef,.slice none 0 0,.int .i64 0,x8,x9,x10,x11,x12,x13,x14,x15,x16,x17,x18,x19,x20,x21,x22,x23,x24,x25,x26,x27,x28,x29,x30,x31,x32,x33,x34,x35,x36,x37,x38,x39,x40,x41,x42,x43,x44,x45,x46,x47,x48,x49,x50,x51,x52,x53,x54,x55,x56,x57,x58,x59,x60,x61,x62,x63,x64,x65,x66,x67,x68,x69,x70,x71,x72,x73,x74,x75,x76,x77,x78,x79],defers:=[] }) (fun _ _=>0) rfl ?_ ?_
 ·go_upto_region 7 with (first
   | (go_at_call 90;((with_reducible refine (HGO.out _ _ _ H0.out).mono ?_);rintro e w1 ⟨rfl,hm1⟩;have M1:=qh (HVL.out _ _ _ hm1);have q3:=M1.out.2.c3;clear hm1))
   | ((with_reducible refine kk.store_any gl zl 8 20 w1.heap.size ?_ ?_ ?_ ?_);((rfl));((rfl));((exact M1.out.1)))
   | (go_at_call 59;((with_reducible refine (HBF.out _ _ _ M1.out.2).mono ?_);rintro e w3 ⟨rfl,v3,hm3⟩;have M3:=qh (HVB.out _ _ _ hm3);have ht3:=M3.out.1;have rl:=M3.out.2.rangeL (.tail _ (.head _));clear hm3))
   | ((with_reducible refine store_b bd HDD.out 10 29 w3.heap.size 0 ?_ ?_ ht3 ?_);((rfl));((rfl)))
   | ((with_reducible refine kk.load_ln gl 8 w1.heap.size 0 ?_ rl ?_);((rfl)))
   | (go_at_call 89;((with_reducible refine (HMW.out _).mono ?_);rintro e w5 ⟨rfl,hg5⟩;have M5:=qh (M3.out.2.grown hg5);have s2:=M5.out.c2;have sl:=M5.out.cellL (.tail _ (.head _)) 0 _ rfl;have M5d:=qh M5.out.drew;clear hg5)))
  go_still_tail 6,(by kernel_rfl)
  change wpList _ _ _ _ _ w5.drew
  go_wp2_with (first
   | (go_at_call 91;((with_reducible refine (M5d.out.drop gl.b).mono ?_);rintro e w6 ⟨rfl,hm6⟩;have M6:=qh hm6;clear hm6)))
  go_step3
  exact ⟨rfl,⟨v3,_,M6.out⟩,_,_,_,_,_,_,_,_,_,_,_,_,_,_,_,_,_,_,_,_,_,_,_,_,_,_,_,_,_,_,_,_,_,_,_,_,_,_,_,_,_,_,_,_,_,_,_,_,_,_,_,_,_,_,_,_,_,_,_,_,_,_,_,_,_,_,_,_,_,_,_,_,rfl⟩
 ·rintro a' w' ⟨⟨v5,B5,hm5⟩,x8,x9,x10,x11,x12,x13,x14,x15,x16,x17,x18,x19,x20,x21,x22,x23,x24,x25,x26,x27,x28,x29,x30,x31,x32,x33,x34,x35,x36,x37,x38,x39,x40,x41,x42,x43,x44,x45,x46,x47,x48,x49,x50,x51,x52,x53,x54,x55,x56,x57,x58,x59,x60,x61,x62,x63,x64,x65,x66,x67,x68,x69,x70,x71,x72,x73,x74,x75,x76,x77,x78,x79,rfl⟩
  have M5:=qh hm5
  have HO:=qh (OutN.nil w w')
  clear hm5
  have HTO:=qh (home_any M5.out.ln kd b)
  rw [HN0.out] at HTO
  go_upto_region 12 with (first
   | (go_at_call 94;((with_reducible refine HTO.out.mono ?_);rintro e x1 ⟨rfl,hx1⟩;have X1:=qh (M5.out.grown hx1);have HO1:=qh (HO.out.grown hx1);have ht1:=X1.out.thereQ;clear hx1))
   | ((with_reducible refine store_o n0 63 61 L.q 6 ?_ ?_ ht1 ?_);((rfl));((rfl))))
  have X2:=qh (X1.out.ask n0)
  have HO2:=qh (OutN.next X1.out.ln HO1.out (Mv.one (L:={ L with bv:=v5 }) (grown_setCells x1 L.q 6 (nt n0)) (any_q _)))
  obtain ⟨x2,hx2⟩:∃ x,x1.setCells L.q 6 (nt n0)=x:=⟨_,rfl⟩
  rw [hx2] at X2 HO2 ⊢
  clear hx2
  have e5:=X2.out.c5
  have e10:x2.cell? ⟨L.q,10,none⟩=some (.int .u64 n0.st):=X2.out.cask 4 _ (by rw [show shown _=n0 from rfl];rfl)
  have f10:x2.frozen? ⟨L.q,10,none⟩=false:=frozen_of_row _ _ _ _ _ X2.out.ln.blk
  have HSS:=qh X2.out.stamp
  have X3:=qh (X2.out.stamped rfl (sT k.d))
  have r6:(x2.setCell ⟨L.q,10,none⟩ (.int .u64 (sT k.d))).rangeAt L.q 6 (nt n1):=by have:=X3.out.cask;rw [show shown _={ n0 with st:=sT k.d } from rfl,HN1.out] at this;exact this
  have HS3:=qh ((OutN.next X2.out.ln HO2.out (Mv.one (L:={ L with bv:=v5 }) (kk.grown_setCell x2 L.q 10 (.int .u64 (sT k.d))) (any_q _))).grown (grown_alloc (grown_refl _ none) (.cells (na n1) 37)))
  have XO:=qh (X3.out.one n1)
  have HB3:Hid (((x2.setCell ⟨L.q,10,none⟩ (.int .u64 (sT k.d))).alloc (.cells (na n1) 37)).heap[(x2.setCell ⟨L.q,10,none⟩ (.int .u64 (sT k.d))).heap.size]?=some (.cells (na n1) 37 (0,0))):=qh (heap_alloc_new _ _)
  have hzx:(x2.setCell ⟨L.q,10,none⟩ (.int .u64 (sT k.d))).heap.size=x2.heap.size:=by simp [World.setCell]
  rw [hzx] at HB3
  have HSL:Hid (Sl ((x2.setCell ⟨L.q,10,none⟩ (.int .u64 (sT k.d))).alloc (.cells (na n1) 37)) 37 24 (.slice none 0 0) 0 (flat nt [])):=qh HS3.out.sl
  have HSC:=qh (tt.src_one' (P:=Tryz.prog) (t:=43) ((x2.setCell ⟨L.q,10,none⟩ (.int .u64 (sT k.d))).alloc (.cells (na n1) 37)) x2.heap.size (na n1) _ (nt n1) 24 Tryz.underlying43 HB3.out rfl (tt.nt_len n1) (tt.nt_one n1))
  have sz1:=tt.na_size n1
  have fd1:=fold_nt n1
  go_wp2_with (first
   | (go_at_call 28;((with_reducible refine HSS.out.mono ?_);rintro e x4 ⟨rfl,rfl⟩))
   | ((with_reducible refine load_o n1 76 L.q 6 ?_ r6 ?_);((rfl)))
   | ((with_reducible refine tt.append_sl 43 37 24 i0 (.agg (na zn)) 112 _ _ Tryz.underlying43 hi hz0 hz1 hz2 zn_cells (.slice none 0 0) 0 (flat nt []) ?_ HSL.out (.slice (some ⟨x2.heap.size,0,none⟩) 1 1) 1 (nt n1) ?_ HSC.out ?_ ?_ ?_);(rfl);(rfl);(unfold maxLen;omega);(omega);(intro s5 x5 hs5 hg5 hn5;have HS5:=qh hs5;have X5:=qh (XO.out.1.notes hg5 (fun g hg=>⟨HS3.out.own g hg,by obtain ⟨cur,hc⟩:=HS3.out.sl.type g hg;exact ⟨_,_,hc⟩⟩));have HO5:=qh (hn5.ge XO.out.1.mv.kp.size HS3.out.own);clear hs5 hg5 hn5)))
  rw [oo.jump_ret]
  go_ret2
  exact ⟨s5,rfl,⟨by have:=HS5.out;rw [← tt.flat_single nt n1,← tt.flat_append] at this;exact this,HO5.out⟩,v5,by have:=X5.out.ln;rw [show ({ k with ss:=(cdrop P.c k.ss gl.b).1,ask:={ n0 with st:=sT k.d },wt:=true }:Nr)={ k with ss:=(cdrop P.c k.ss gl.b).1,ask:=n1,wt:=true } from by rw [HN1.out]] at this;exact this,X5.out.mv⟩
theorem send_put (hB:(bk.look k.bs b).isSome=false) (hG:(cgoes P.c k.ss b).2=true) (hW:mw (cgoes P.c k.ss b).1=true) (hR:k.bs.length ≠ P.m):Calls Tryz.prog 52 #[.pointer (some ⟨L.q,0,none⟩),.int .u8 kd,.int .i64 b] w fun e w'=>∃ s,e = .returned (.tuple #[s,.int .i64 0])∧OutN w w' s [putN P k (cgoes P.c k.ss b).1,bare kd P.core (-1) b (sT k.d) 0 false false]∧∃ v,LN w' { L with bv:=v } P { k with ss:=(cdrop P.c k.ss (cgoes P.c k.ss b).1.b).1,bs:=puts P.N P.m k.bs (cgoes P.c k.ss b).1.b (cgoes P.c k.ss b).1.d (cgoes P.c k.ss b).1.h,ask:=bare kd P.core (-1) b (sT k.d) 0 false false,wt:=true }∧Mv w w' L v:=by
 have H0:=qh (Mil.of h)
 have c2:=h.c2
 obtain ⟨gl,hgl⟩:∃ l,(cgoes P.c k.ss b).1=l:=⟨_,rfl⟩
 obtain ⟨gf,hgf⟩:∃ l,(cgoes P.c k.ss b).2=l:=⟨_,rfl⟩
 obtain ⟨bi,hbi⟩:∃ l,(bk.look k.bs b).isSome=l:=⟨_,rfl⟩
 obtain ⟨bl,hbl⟩:∃ l,fl (bk.look k.bs b)=l:=⟨_,rfl⟩
 have hdd:=bk.fd_len (bk.look k.bs b)
 have HGO:Hid (∀ W v B,Mil w W L v P k B→Calls Tryz.prog 90 #[.pointer (some ⟨L.c.b,0,none⟩),.int .i64 b] W fun e W'=>e = .returned (.tuple #[.agg (la gl),.bool gf])∧Mil w W' L v P k B):=qh fun W v B mm=>by have:=mm.goes b;rw [hgl,hgf] at this;exact this
 have HBF0:∀ W v B,Mil w W L v P k B→Calls Tryz.prog 59 #[.pointer (some ⟨L.bt,0,none⟩),.int .i64 b] W fun e W'=>e = .returned (.tuple #[.agg (row (fd (bk.look k.bs b))),.bool bl,.bool bi])∧∃ v',Mil w W' L v' P k B:=fun W v B mm=>by have:=mm.bfind b;rw [hbl,hbi] at this;exact this
 obtain ⟨bd,hbd⟩:∃ l,fd (bk.look k.bs b)=l:=⟨_,rfl⟩
 rw [hbd] at HBF0 hdd
 have HBF:=qh HBF0
 have HDD:=qh hdd
 have HVL:Hid (∀ W v B,Mil w W L v P k B→(W.alloc (.cells (la zl) 50)).heap[W.heap.size]?=some (.cells (la zl) 50 (0,0))∧Mil w ((W.alloc (.cells (la zl) 50)).setRow W.heap.size (la gl)) L v P k ((W.heap.size,ol gl) :: B)):=qh fun W v B mm=>⟨heap_alloc_new _ _,mm.varL gl⟩
 have HVB:Hid (∀ W v B,Mil w W L v P k B→(W.alloc (.cells (row zd) 35)).there W.heap.size 0 16∧Mil w ((W.alloc (.cells (row zd) 35)).setCells W.heap.size 0 (bd.map U)) L v P k ((W.heap.size,od bd) :: B)):=qh fun W v B mm=>⟨there_at (heap_alloc_new _ _) (by exact Nat.le_refl _),(mm.alloc (row zd) 35).put (i:=0) rfl (grown_setCells _ _ _ _) (filled (heap_alloc_new _ _) (by rw [List.length_map,hdd];rfl))⟩
 have HZL:Hid (la zl=_):=qh kk.zl_la
 have HZB:Hid (row zd=_):=qh bk.zrow
 rw [HZL.out] at HVL
 rw [HZB.out] at HVB
 have HMW:=qh fun W=>maywrite_any gl W
 obtain ⟨n0,hn0⟩:∃ n,bare kd P.core (-1) b 0 0 false false=n:=⟨_,rfl⟩
 have HN0:=qh hn0
 obtain ⟨n1,hn1⟩:∃ n,({ n0 with st:=sT k.d }:Nt)=n:=⟨_,rfl⟩
 have HN1:=qh hn1
 have hne:n1=bare kd P.core (-1) b (sT k.d) 0 false false:=by rw [← hn1,← hn0];rfl
 rw [← hne]
 obtain ⟨i0,hi,hz0,hz1,hz2⟩:=info_parts infoN
 rw [hbi] at hB
 rw [hgf] at hG
 rw [hgl] at hW ⊢
 subst hB hG
 rw [hW] at HMW
 obtain ⟨rm,hrm⟩:∃ r,(P.m:Int) - (k.bs.length:Int)=r:=⟨_,rfl⟩
 have hz:(rm == 0)=false:=by simp;omega
 have HRM:Hid (∀ W v B,Mil w W L v P k B→Calls Tryz.prog 92 #[.pointer (some ⟨L.bt,0,none⟩)] W fun e W'=>e = .returned (.int .i64 rm)∧Mil w W' L v P k B):=qh fun W v B mm=>by have:=mm.broom;rw [hrm] at this;exact this
 obtain ⟨pn,hpn⟩:∃ n,putN P k gl=n:=⟨_,rfl⟩
 have HBK:Hid (∀ W v B,Mil w W L v P k B→Calls Tryz.prog 93 #[.pointer (some ⟨L.q,0,none⟩),.agg (la gl)] W fun e W'=>e = .returned (.agg (na pn))∧∃ v',Mil w W' L v' P { k with ss:=(cdrop P.c k.ss gl.b).1,bs:=puts P.N P.m k.bs gl.b gl.d gl.h } B):=qh fun W v B mm=>(back_any mm.ln gl).mono fun e W' ⟨he,v',hl,hv⟩=>⟨by rw [he,hpn],v',mm.next hl hv⟩
 rw [hpn]
 have szp:=tt.na_size pn
 have fdp:=fold_nt pn
 clear h hgl hgf hbi hbl hdd hbd HBF0 hn0 hn1 hne hW hR hrm hpn
 go_enter Tryz.func52,Tryz.ntmps52
 go_wp2
 refine wp_scope_jumps 0 (fun _ _=>False) (fun _ _=>0) rfl ?_ ?_
 ·go_upto_region 11 with (first
   | (go_at_call 90;((with_reducible refine (HGO.out _ _ _ H0.out).mono ?_);rintro e w1 ⟨rfl,hm1⟩;have M1:=qh (HVL.out _ _ _ hm1);have q3:=M1.out.2.c3;clear hm1))
   | ((with_reducible refine kk.store_any gl zl 8 20 w1.heap.size ?_ ?_ ?_ ?_);((rfl));((rfl));((exact M1.out.1)))
   | (go_at_call 59;((with_reducible refine (HBF.out _ _ _ M1.out.2).mono ?_);rintro e w3 ⟨rfl,v3,hm3⟩;have M3:=qh (HVB.out _ _ _ hm3);have ht3:=M3.out.1;have rl:=M3.out.2.rangeL (.tail _ (.head _));clear hm3))
   | ((with_reducible refine store_b bd HDD.out 10 29 w3.heap.size 0 ?_ ?_ ht3 ?_);((rfl));((rfl)))
   | ((with_reducible refine kk.load_ln gl 8 w1.heap.size 0 ?_ rl ?_);((rfl)))
   | (go_at_call 89;((with_reducible refine (HMW.out _).mono ?_);rintro e w5 ⟨rfl,hg5⟩;have M5:=qh (M3.out.2.grown hg5);have s3:=M5.out.c3;clear hg5))
   | (go_at_call 92;((with_reducible refine (HRM.out _ _ _ M5.out).mono ?_);rintro e w6 ⟨rfl,hm6⟩;have M6:=qh hm6;have rl6:=hm6.rangeL (.tail _ (.head _));clear hm6))
   | ((with_reducible refine kk.load_ln gl 8 w1.heap.size 0 ?_ rl6 ?_);((rfl)))
   | (go_at_call 93;((with_reducible refine (HBK.out _ _ _ M6.out).mono ?_);rintro e w7 ⟨rfl,v7,hm7⟩;have M7:=qh (hm7.one pn);have hb7:=heap_alloc_new w7 (.cells (na pn) 37);clear hm7))
   | ((with_reducible refine tt.append_sl 43 37 24 i0 (.agg (na zn)) 112 _ _ Tryz.underlying43 hi hz0 hz1 hz2 zn_cells (.slice none 0 0) 0 [] ?_ (Sl.nil _ _ _) (.slice (some ⟨w7.heap.size,0,none⟩) 1 1) 1 (nt pn) ?_ (tt.src_one' _ _ (na pn) _ (nt pn) 24 Tryz.underlying43 hb7 rfl (tt.nt_len pn) (tt.nt_one pn)) ?_ ?_ ?_);(rfl);(rfl);(unfold maxLen;omega);(omega);(intro s8 w8 hs8 hg8 hn8;have HS8:=qh hs8;have M8:=qh (M7.out.1.grown hg8);have HV8:=qh (hn8.ge M7.out.1.mv.kp.size (fun g hg=>by simp [Value.ownBlock] at hg));clear hs8 hg8 hn8)))
  go_step3
  have HO:Hid (OutN w w8 s8 [pn]):=qh ⟨by have:=HS8.out;rw [List.nil_append] at this;rw [SlN,tt.flat_single];exact this,HV8.out⟩
  have HTO:=qh (home_any M8.out.ln kd b)
  rw [HN0.out] at HTO
  go_upto_region 12 with (first
   | (go_at_call 94;((with_reducible refine HTO.out.mono ?_);rintro e x1 ⟨rfl,hx1⟩;have X1:=qh (M8.out.grown hx1);have HO1:=qh (HO.out.grown hx1);have ht1:=X1.out.thereQ;clear hx1))
   | ((with_reducible refine store_o n0 63 61 L.q 6 ?_ ?_ ht1 ?_);((rfl));((rfl))))
  have X2:=qh (X1.out.ask n0)
  have HO2:=qh (OutN.next X1.out.ln HO1.out (Mv.one (L:={ L with bv:=v7 }) (grown_setCells x1 L.q 6 (nt n0)) (any_q _)))
  obtain ⟨x2,hx2⟩:∃ x,x1.setCells L.q 6 (nt n0)=x:=⟨_,rfl⟩
  rw [hx2] at X2 HO2 ⊢
  clear hx2
  have e5:=X2.out.c5
  have e10:x2.cell? ⟨L.q,10,none⟩=some (.int .u64 n0.st):=X2.out.cask 4 _ (by rw [show shown _=n0 from rfl];rfl)
  have f10:x2.frozen? ⟨L.q,10,none⟩=false:=frozen_of_row _ _ _ _ _ X2.out.ln.blk
  have HSS:=qh X2.out.stamp
  have X3:=qh (X2.out.stamped rfl (sT k.d))
  have r6:(x2.setCell ⟨L.q,10,none⟩ (.int .u64 (sT k.d))).rangeAt L.q 6 (nt n1):=by have:=X3.out.cask;rw [show shown _={ n0 with st:=sT k.d } from rfl,HN1.out] at this;exact this
  have HS3:=qh ((OutN.next X2.out.ln HO2.out (Mv.one (L:={ L with bv:=v7 }) (kk.grown_setCell x2 L.q 10 (.int .u64 (sT k.d))) (any_q _))).grown (grown_alloc (grown_refl _ none) (.cells (na n1) 37)))
  have XO:=qh (X3.out.one n1)
  have HB3:Hid (((x2.setCell ⟨L.q,10,none⟩ (.int .u64 (sT k.d))).alloc (.cells (na n1) 37)).heap[(x2.setCell ⟨L.q,10,none⟩ (.int .u64 (sT k.d))).heap.size]?=some (.cells (na n1) 37 (0,0))):=qh (heap_alloc_new _ _)
  have hzx:(x2.setCell ⟨L.q,10,none⟩ (.int .u64 (sT k.d))).heap.size=x2.heap.size:=by simp [World.setCell]
  rw [hzx] at HB3
  have HSL:Hid (Sl ((x2.setCell ⟨L.q,10,none⟩ (.int .u64 (sT k.d))).alloc (.cells (na n1) 37)) 37 24 (s8) 1 (flat nt [pn])):=qh HS3.out.sl
  have HSC:=qh (tt.src_one' (P:=Tryz.prog) (t:=43) ((x2.setCell ⟨L.q,10,none⟩ (.int .u64 (sT k.d))).alloc (.cells (na n1) 37)) x2.heap.size (na n1) _ (nt n1) 24 Tryz.underlying43 HB3.out rfl (tt.nt_len n1) (tt.nt_one n1))
  have sz1:=tt.na_size n1
  have fd1:=fold_nt n1
  go_wp2_with (first
   | (go_at_call 28;((with_reducible refine HSS.out.mono ?_);rintro e x4 ⟨rfl,rfl⟩))
   | ((with_reducible refine load_o n1 76 L.q 6 ?_ r6 ?_);((rfl)))
   | ((with_reducible refine tt.append_sl 43 37 24 i0 (.agg (na zn)) 112 _ _ Tryz.underlying43 hi hz0 hz1 hz2 zn_cells (s8) 1 (flat nt [pn]) ?_ HSL.out (.slice (some ⟨x2.heap.size,0,none⟩) 1 1) 1 (nt n1) ?_ HSC.out ?_ ?_ ?_);(rfl);(rfl);(unfold maxLen;omega);(omega);(intro s5 x5 hs5 hg5 hn5;have HS5:=qh hs5;have X5:=qh (XO.out.1.notes hg5 (fun g hg=>⟨HS3.out.own g hg,by obtain ⟨cur,hc⟩:=HS3.out.sl.type g hg;exact ⟨_,_,hc⟩⟩));have HO5:=qh (hn5.ge XO.out.1.mv.kp.size HS3.out.own);clear hs5 hg5 hn5)))
  rw [oo.jump_ret]
  go_ret2
  exact ⟨s5,rfl,⟨by have:=HS5.out;rw [← tt.flat_single nt n1,← tt.flat_append] at this;exact this,HO5.out⟩,v7,by have:=X5.out.ln;rw [show ({ k with ss:=(cdrop P.c k.ss gl.b).1,bs:=puts P.N P.m k.bs gl.b gl.d gl.h,ask:={ n0 with st:=sT k.d },wt:=true }:Nr)={ k with ss:=(cdrop P.c k.ss gl.b).1,bs:=puts P.N P.m k.bs gl.b gl.d gl.h,ask:=n1,wt:=true } from by rw [HN1.out]] at this;exact this,X5.out.mv⟩
 ·exact fun _ _ hf=>hf.elim
end
end Go.Proofs.YtcoimipgilkmbaaGreatDoor.nl
