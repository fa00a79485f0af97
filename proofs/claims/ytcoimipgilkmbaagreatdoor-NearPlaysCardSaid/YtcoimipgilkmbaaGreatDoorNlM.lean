/-
 What a near answers to what is back, refused, given: contracts. Conditions: as NlA names them.
-/
import Derived.Test.YtcoimipgilkmbaaGreatDoorTl
import Derived.Test.YtcoimipgilkmbaaGreatDoorNlL
namespace Go.Proofs.YtcoimipgilkmbaaGreatDoor.nl
set_option linter.unusedVariables false
set_option linter.unusedSimpArgs false
set_option maxRecDepth 1000000
set_option maxHeartbeats 16000000
open Go Go.ChangeShapes Go.WideShapes Go.ChangeAt Go.RowKit Go.Shelf
open Go.Proofs.YtcoimipgilkmbaaGreatDoor.nr
open Go.Proofs.YtcoimipgilkmbaaGreatDoor.tt (Cfg Nt na nt zn bare zd fits row tyne lt_of U Tab TabK grown_refl grown_trans grown_alloc grown_setCells grown_drew grown_drewN yes Sl Next flat)
open Go.Proofs.YtcoimipgilkmbaaGreatDoor.kk (Ln St zl la ln cfind cdrop cuse cgoes cwrite cturn cput setAt setOf live fF Shp Cac Kept)
open Go.Proofs.YtcoimipgilkmbaaGreatDoor.bk (Bk rem kills puts putE fd fl Nd Rg dead fresh BkAt)
open Go.Proofs.YtcoimipgilkmbaaGreatDoor.mrk (Ms rdS wrS meets addE Dom MkAt)
open Go.Proofs.YtcoimipgilkmbaaGreatDoor.de (Dl sT gE rF aD LAt)
open Go.Proofs.YtcoimipgilkmbaaGreatDoor.oo (ref)
theorem fold_ln (b s:Int) (d:List Int) (hd:d.length=16):Array.foldl (fun (cs:Array Value) (x:Value × Nat)=>cs.setIfInBounds (2 + x.snd) x.fst) #[.int .i64 b,.int .u8 s,.int .u32 0,.int .u32 0,.int .u32 0,.int .u32 0,.int .u32 0,.int .u32 0,.int .u32 0,.int .u32 0,.int .u32 0,.int .u32 0,.int .u32 0,.int .u32 0,.int .u32 0,.int .u32 0,.int .u32 0,.int .u32 0] (row d).zipIdx 0 16=la ⟨b,s,d,hd⟩:=by
 match d,hd with
 | [d0,d1,d2,d3,d4,d5,d6,d7,d8,d9,d10,d11,d12,d13,d14,d15],_=>simp [row,la,ln]
section
variable {w:World} {L:LL} {P:Pm} {k:Nr} (h:LN w L P k)
include h
theorem isback_any (n:Nt):Calls Tryz.prog 98 #[.pointer (some ⟨L.q,0,none⟩),.agg (na n)] w fun e w'=>∃ s,e = .returned (.tuple #[s,.bool false,.int .i64 (if (bk.look k.bs n.b).isSome=true then 0 else 8)])∧OutN w w' s []∧∃ v,LN w' { L with bv:=v } P { k with bs:=rem k.bs n.b }∧Mv w w' L v:=by
 have m0:=(Mil.of h).alloc (na n) 37
 have M0d:=qh m0.drew
 have c3:=m0.c3
 have q3:=m0.cellN (.head _) 3 _ rfl
 have HBD:=qh (M0d.out.bdrop n.b)
 obtain ⟨f,hf⟩:∃ l,(bk.look k.bs n.b).isSome=l:=⟨_,rfl⟩
 rw [hf] at HBD ⊢
 obtain ⟨W0,hW0⟩:∃ W,w.alloc (.cells (na n) 37)=W:=⟨_,rfl⟩
 rw [hW0] at c3 q3 HBD M0d
 clear h m0 hf
 cases f
 ·rw [if_neg (show ¬ (false=true) by decide)]
  go_enter Tryz.func98,Tryz.ntmps98
  go_upto_region 1 with fail
  go_still_tail 6,(by kernel_rfl)
  change wpList _ _ _ _ _ W0.drew
  go_wp2_with (first
   | (go_at_call 139;((with_reducible refine HBD.out.mono ?_);rintro e w1 ⟨rfl,v1,hm1⟩;have M1:=qh hm1;clear hm1)))
  go_ret3
  exact ⟨_,rfl,OutN.nil _ _,v1,M1.out.ln,M1.out.mv⟩
 ·rw [if_pos rfl]
  go_enter Tryz.func98,Tryz.ntmps98
  go_upto_region 1 with fail
  go_still_tail 6,(by kernel_rfl)
  change wpList _ _ _ _ _ W0.drew
  go_wp2_with (first
   | (go_at_call 139;((with_reducible refine HBD.out.mono ?_);rintro e w1 ⟨rfl,v1,hm1⟩;have M1:=qh hm1;clear hm1)))
  go_ret3
  exact ⟨_,rfl,OutN.nil _ _,v1,M1.out.ln,M1.out.mv⟩
variable (I:Inv P k)
include I
theorem isrefused_any (n:Nt):Calls Tryz.prog 97 #[.pointer (some ⟨L.q,0,none⟩),.agg (na n)] w fun e w'=>∃ s,e = .returned (.tuple #[s,.bool (aw k n && rF k.d n.st),.int .i64 (if aw k n=true then 0 else 8)])∧OutN w w' s []∧∃ v,LN w' { L with bv:=v } P (if aw k n=true then { k with wt:=false } else k)∧Mv w w' L v:=by
 have m0:=(Mil.of h).alloc (na n) 37
 have M0:=qh m0
 have q3:=m0.cellN (.head _) 3 _ rfl
 have HWF:=qh (waitsfor_any m0.ln I n.b)
 have haw:(k.wt && decide (k.ask.b=n.b))=aw k n:=rfl
 rw [haw] at HWF
 obtain ⟨f,hf⟩:∃ l,aw k n=l:=⟨_,rfl⟩
 rw [hf] at HWF ⊢
 obtain ⟨W0,hW0⟩:∃ W,w.alloc (.cells (na n) 37)=W:=⟨_,rfl⟩
 rw [hW0] at q3 HWF M0
 obtain ⟨A,hA⟩:∃ A,w.heap.size=A:=⟨_,rfl⟩
 rw [hA] at q3 M0
 have HRF:Hid (∀ W v B,Mil w W L v P { k with wt:=false } B→∀ j,Calls Tryz.prog 138 #[.pointer (some ⟨L.dg,0,none⟩),.int .u64 n.st] (W.drewN j) fun e W'=>e = .returned (.bool (rF k.d n.st))∧∃ i,W'=(W.drewN j).drewN i):=qh fun W v B mm j=>de.refused_any (mm.grown (grown_drewN (grown_refl _ _) j)).ln.dl n.st
 clear h m0 hf haw
 cases f
 ·rw [if_neg (show ¬ (false=true) by decide),if_neg (show ¬ (false=true) by decide),Bool.false_and]
  go_enter Tryz.func97,Tryz.ntmps97
  go_wp2_with (first
   | (go_at_call 136;((with_reducible refine HWF.out.mono ?_);rintro e w1 ⟨rfl,hg1⟩;have M1:=qh (M0.out.grown hg1);clear hg1)))
  go_ret3
  exact ⟨_,rfl,OutN.nil _ _,_,M1.out.ln,M1.out.mv⟩
 ·rw [if_pos (rfl:true=true),if_pos (rfl:true=true),Bool.true_and]
  go_enter Tryz.func97,Tryz.ntmps97
  go_upto_region 4 with (first
   | (go_at_call 136;((with_reducible refine HWF.out.mono ?_);rintro e w1 ⟨rfl,hg1⟩;have M1:=qh (M0.out.grown hg1);have ht1:=M1.out.thereQ;clear hg1))
   | ((with_reducible refine store_o zn 15 13 L.q 6 ?_ ?_ ht1 ?_);((rfl));((rfl))))
  have M2:=qh M1.out.unask
  obtain ⟨w2,hw2⟩:∃ W,w1.setCells L.q 6 (nt zn)=W:=⟨_,rfl⟩
  rw [hw2] at M2 ⊢
  have r5:=M2.out.c5
  have r4:=M2.out.cellN (.head _) 4 _ rfl
  have HRQ:=qh fun j=>HRF.out _ _ _ M2.out j
  go_quiet (first
   | (go_at_call 138;exact Calls.quiet_of (HRQ.out _)))
  go_wp2_with fail
  go_ret3
  have M3:=M2.out.grown (grown_drewN (grown_refl _ none) nq)
  exact ⟨_,rfl,OutN.nil _ _,_,M3.ln,M3.mv⟩
theorem gets_any (n:Nt):Calls Tryz.prog 96 #[.pointer (some ⟨L.q,0,none⟩),.agg (na n)] w fun e w'=>∃ s,e = .returned (.tuple #[s,.bool false,.int .i64 (if aw k n=true∧fitsAsk k n=true then 0 else 8)])∧OutN w w' s (if aw k n=true∧fitsAsk k n=true then [doneN P n] else [])∧∃ v,LN w' { L with bv:=v } P (if aw k n=true∧fitsAsk k n=true then { k with ss:=(cput P.c k.ss (lineOf n)).1,wt:=false } else k)∧Mv w w' L v:=by
 have m0:=(Mil.of h).alloc (na n) 37
 have M0:=qh m0
 have q3:=m0.cellN (.head _) 3 _ rfl
 have q5:=m0.cellN (.head _) 5 _ rfl
 have HWF:=qh (waitsfor_any m0.ln I n.b)
 have haw:(k.wt && decide (k.ask.b=n.b))=aw k n:=rfl
 rw [haw] at HWF
 have hak:aw k n=true→(k.ask.k=1 ∨ k.ask.k=2)∧shown k=k.ask:=fun e=>by
  obtain ⟨hw,_⟩:=aw_iff.1 e
  exact ⟨(I.ak hw).2,by unfold shown;rw [if_pos hw]⟩
 obtain ⟨f,hf⟩:∃ l,aw k n=l:=⟨_,rfl⟩
 rw [hf] at HWF hak ⊢
 obtain ⟨W0,hW0⟩:∃ W,w.alloc (.cells (na n) 37)=W:=⟨_,rfl⟩
 rw [hW0] at q3 q5 HWF M0
 obtain ⟨A,hA⟩:∃ A,w.heap.size=A:=⟨_,rfl⟩
 rw [hA] at q3 q5 M0
 cases f
 ·rw [if_neg (fun e=>by cases e.1),if_neg (fun e=>by cases e.1),if_neg (fun e=>by cases e.1)]
  clear h m0 hf haw hak
  go_enter Tryz.func96,Tryz.ntmps96
  go_wp2_with (first
   | (go_at_call 136;((with_reducible refine HWF.out.mono ?_);rintro e w1 ⟨rfl,hg1⟩;have M1:=qh (M0.out.grown hg1);clear hg1)))
  go_ret3
  exact ⟨_,rfl,OutN.nil _ _,_,M1.out.ln,M1.out.mv⟩
 ·obtain ⟨hk,hs⟩:=hak rfl
  have hfa:fitsAsk k n=(decide (n.s=3) == decide (k.ask.k=2)):=by
   unfold fitsAsk
   rcases hk with e | e <;> rw [e] <;> cases decide (n.s=3) <;> rfl
  obtain ⟨g,hg⟩:∃ l,fitsAsk k n=l:=⟨_,rfl⟩
  rw [hg] at hfa ⊢
  have HQ:Hid (∀ W v B,Mil w W L v P k B→W.cell? ⟨L.q,6,none⟩=some (.int .u8 k.ask.k)):=qh fun W v B mm=>by
   have:=mm.cask 0 (.int .u8 k.ask.k) (by rw [hs];rfl)
   exact this
  have hbb:((n.s == 3) != (k.ask.k == 2))=!g:=by
   rw [hfa,show (n.s == 3)=decide (n.s=3) from by by_cases h:n.s=3 <;> simp [h],show (k.ask.k == 2)=decide (k.ask.k=2) from by by_cases h:k.ask.k=2 <;> simp [h]]
   cases decide (n.s=3) <;> cases decide (k.ask.k=2) <;> rfl
  obtain ⟨kk0,hkk⟩:∃ x,k.ask.k=x:=⟨_,rfl⟩
  rw [hkk] at HQ hbb
  obtain ⟨b3,e3⟩:∃ x,(n.s == 3)=x:=⟨_,rfl⟩
  obtain ⟨b2,e2⟩:∃ x,(kk0 == 2)=x:=⟨_,rfl⟩
  rw [e3,e2] at hbb
  cases g
  ·rw [Bool.not_false] at hbb
   rw [if_neg (fun e=>by cases e.2),if_neg (fun e=>by cases e.2),if_neg (fun e=>by cases e.2)]
   clear h m0 hf haw hak hk hs hfa hg hkk
   have hcs:(b3=true∧b2=false) ∨ (b3=false∧b2=true):=by revert hbb;cases b3 <;> cases b2 <;> simp
   clear hbb
   rcases hcs with ⟨rfl,rfl⟩ | ⟨rfl,rfl⟩
   all_goals (
    go_enter Tryz.func96,Tryz.ntmps96
    go_wp2_with (first
     | (go_at_call 136;((with_reducible refine HWF.out.mono ?_);rintro e w1 ⟨rfl,hg1⟩;have M1:=qh (M0.out.grown hg1);have q6:=HQ.out _ _ _ M1.out;clear hg1)))
    go_ret3
    exact ⟨_,rfl,OutN.nil _ _,_,M1.out.ln,M1.out.mv⟩)
  ·rw [Bool.not_true] at hbb
   rw [if_pos ⟨rfl,rfl⟩,if_pos ⟨rfl,rfl⟩,if_pos ⟨rfl,rfl⟩]
   have fdl:=fold_ln n.b n.s n.d n.hd
   obtain ⟨x,hx⟩:∃ x,(⟨n.b,n.s,n.d,n.hd⟩:Ln)=x:=⟨_,rfl⟩
   have hxl:lineOf n=x:=hx
   rw [hx] at fdl
   rw [hxl]
   have HND:=qh n.hd
   have szr:(row n.d).size=16:=by simp [row,n.hd]
   obtain ⟨dn,hdn⟩:∃ x,doneN P n=x:=⟨_,rfl⟩
   have hdn2:bare 11 P.core (-1) n.b 0 0 false false=dn:=hdn
   rw [hdn]
   have HDN:=qh hdn2
   have HPT:Hid (∀ W v B,Mil w W L v P k B→_):=qh fun W v B mm=>mm.cput x
   have HHO:Hid (∀ W v k B,Mil w W L v P k B→_):=qh fun W v k (B:List (Nat × Obj)) (mm:Mil w W L v P k B)=>home_any mm.ln 11 n.b
   simp only [hdn2] at HHO
   obtain ⟨i0,hi,hz0,hz1,hz2⟩:=info_parts infoN
   have sz1:=tt.na_size dn
   have fd1:=fold_nt dn
   clear h m0 hf haw hak hk hs hfa hg hkk hx hxl hdn hdn2
   have hcs:(b3=true∧b2=true) ∨ (b3=false∧b2=false):=by revert hbb;cases b3 <;> cases b2 <;> simp
   clear hbb
   rcases hcs with ⟨rfl,rfl⟩ | ⟨rfl,rfl⟩
   all_goals (
    go_enter Tryz.func96,Tryz.ntmps96
    go_upto_region 4 with (first
     | (go_at_call 136;((with_reducible refine HWF.out.mono ?_);rintro e w1 ⟨rfl,hg1⟩;have M1:=qh (M0.out.grown hg1);have q6:=HQ.out _ _ _ M1.out;have q2:=M1.out.c2;have p3:=M1.out.cellN (.head _) 3 _ rfl;have p5:=M1.out.cellN (.head _) 5 _ rfl;have rd:=M1.out.rangeN (.head _);clear hg1)))
    have M1d:=qh M1.out.drew
    have rd8:w1.rangeAt A 8 (n.d.map U):=fun j y hy=>by
     have:=rd (8 + j) y (by rw [nt,show 8 + j=j + 8 from Nat.add_comm _ _];simpa using hy)
     rwa [Nat.zero_add] at this
    obtain ⟨t,nn,HT,hagg,hsize,hld,hszb,hst⟩:=bk.named29
    have hld2:=hld A 8 n.d HND.out
    have hld1:=hld2 w1 rd8
    have hld1d:=hld2 w1.drew rd8
    rw [HT.out.1]
    clear hld hszb hst hld2 rd
    go_still_tail 11,(by kernel_rfl)
    change wpList _ _ _ _ _ w1.drew
    go_wp2_with (first
     | (go_at_call 137;((with_reducible refine (HPT.out _ _ _ M1d.out).mono ?_);rintro e w2 ⟨rfl,hm2⟩;have M2:=qh hm2;have ht2:=hm2.thereQ;have M3:=qh hm2.unask;have u3:=M3.out.cellN (.head _) 3 _ rfl;clear hm2))
     | ((with_reducible refine store_o zn 41 39 L.q 6 ?_ ?_ ht2 ?_);((rfl));((rfl)))
     | (go_at_call 94;((with_reducible refine (HHO.out _ _ _ _ M3.out).mono ?_);rintro e w4 ⟨rfl,hg4⟩;have M4:=qh (M3.out.grown hg4);clear hg4)))
    go_ret3
    have M5:=M4.out.one dn
    exact ⟨_,rfl,M5.2,_,M5.1.ln,M5.1.mv⟩)
end
end Go.Proofs.YtcoimipgilkmbaaGreatDoor.nl
