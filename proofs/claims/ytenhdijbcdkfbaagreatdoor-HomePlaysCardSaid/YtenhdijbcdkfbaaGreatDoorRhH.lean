/-
 What begin of the document's home makes of a block that is put back: contract. No condition but what it names.
-/
import Derived.Test.YtenhdijbcdkfbaaGreatDoorTl
import Derived.Test.YtenhdijbcdkfbaaGreatDoorRhG
import Derived.Test.YtenhdijbcdkfbaaGreatDoorHd
import Derived.Test.YtenhdijbcdkfbaaGreatDoorMf
namespace Go.Proofs.YtenhdijbcdkfbaaGreatDoor.hh
set_option linter.unusedVariables false
set_option linter.unusedSimpArgs false
set_option maxRecDepth 1000000
set_option maxHeartbeats 16000000
open Go Go.ChangeShapes Go.WideShapes Go.ChangeAt Go.RowKit
open Go.Proofs.YtenhdijbcdkfbaaGreatDoor.tt (Nt Cfg fits net bare zd usd uses coreOf ok_ends MapAt mput mdel ik NSl flat na nt zn grown_alloc grown_refl grown_trans tyne lt_of)
open Go.Proofs.YtenhdijbcdkfbaaGreatDoor.en (En gets back asked asks free ask_parts may_parts ea)
open Go.Proofs.YtenhdijbcdkfbaaGreatDoor.mm (wi wo ones wo_lt)
section
variable {w:World} {h:Nat} {c:Cfg} {F:Fr} {H:Hm}
theorem rbegin_put (A:RefAt w h c F H) (n:Nt) (hn:Asks c n) (h3:n.k=3) (tk:Bool) (htk:(back (enOf H n.b.toNat) n.f n.q).2.1=tk):Calls Tryz.prog 48 #[.pointer (some ⟨h,0,none⟩),.agg (na n)] w fun e w'=>∃ v,e = .returned v ∧
  RefAt w' h c F (begin1 H n).1∧NSl w' v (begin1 H n).2∧RDid w w' h F F∧∀ k,v.ownBlock=some k→w.heap.size ≤ k:=by
 obtain ⟨hb0,hb⟩:=blk_lt hn.fits
 obtain ⟨b,hbn⟩:∃ b:Nat,n.b=(b:Int):=⟨n.b.toNat,by omega⟩
 have HBT:Hid (n.b.toNat=b):=qh (by omega)
 rw [HBT.out] at hb htk
 have hbl:b < H.en.length:=by rw [A.inv.le];exact hb
 have hans:begin1 H n=({ H with en:=H.en.set b (back (enOf H b) n.f n.q).1,mm:=if tk then H.mm.set b n.d else H.mm },[bare 8 (-1) n.f n.b 0 0 false false]):=by unfold begin1;rw [if_pos h3,HBT.out,htk]
 have HI2:=qh (A.inv.begin1 n hn)
 rw [hans] at HI2
 rw [hans]
 have HIE:Hid (Inv c { H with en:=H.en.set b (back (enOf H b) n.f n.q).1 }):=qh ⟨A.inv.may,HI2.out.le,A.inv.lj,A.inv.lm,A.inv.rows,HI2.out.ents,A.inv.jobs,A.inv.wait⟩
 have HBM:Hid (b < H.mm.length):=qh (by rw [A.inv.lm];have h1:=A.inv.may.2;have h2:=data_le A.inv.may;omega)
 have hes:(enOf H b).s < 4294967296:=by
  have:=(may_parts (o:=(enOf H b).o) (s:=(enOf H b).s) (ents_of A.inv b)).2.2.1;omega
 have HQ:Hid (∀ w,_):=qh fun w=>en.rback_any (enOf H b).o (enOf H b).s n.f n.q w hes
 have HGE:Hid (back ⟨(enOf H b).o,(enOf H b).s⟩ n.f n.q=back (enOf H b) n.f n.q):=qh rfl
 unfold en.gone at HQ
 rw [HGE.out] at HQ
 obtain ⟨g,off,cap,hev,_,_⟩:=A.entAt hbl
 obtain ⟨wb,hwb⟩:∃ wb,w.alloc (.cells (na n) 45)=wb:=⟨_,rfl⟩
 have hgb:w.grownBy wb none:=by rw [← hwb];exact grown_alloc (grown_refl _ _) _
 have hbx:wb.heap[w.heap.size]?=some (.cells (na n) 45 (0,0)):=by rw [← hwb];exact heap_alloc_new _ _
 have HA:Hid (∀ w',wb.grownBy w' none→RefAt w' h c F H):=qh fun w' h'=>A.grown (grown_trans hgb h')
 have HR:Hid (∀ w':World,w'.heap[w.heap.size]?=some (.cells (na n) 45 (0,0))→w'.rangeAt w.heap.size 0 (nt n)):=qh fun w' h'=>tt.range_of h'
 have HK:Hid (∀ w',wb.grownBy w' none→(w'.cell? ⟨h,9,none⟩=some (.slice (some ⟨g,off,none⟩) H.en.length cap))∧(w'.cell? ⟨g,off + b * 2,none⟩=some (.int .i64 (enOf H b).o)∧w'.cell? ⟨g,off + b * 2 + 1,none⟩=some (.int .u32 ((enOf H b).s:Int)))∧(w'.cell? ⟨w.heap.size,1,none⟩=some (.int .i64 n.f)∧w'.cell? ⟨w.heap.size,7,none⟩=some (.bool n.q))):=qh fun w' h'=>by
  have hA:=HA.out w' h'
  obtain ⟨g',off',cap',hev',_,hr⟩:=hA.entAt hbl
  rw [hev] at hev';cases hev'
  have hn':=HR.out w' ((h'.block _ (lt_of hbx) (by simp)).trans hbx)
  exact ⟨by rw [hA.parts.2.1,hev],⟨hr 0 _ rfl,hr 1 _ rfl⟩,⟨tt.cell_at hn' 1 _ rfl,tt.cell_at hn' 7 _ rfl⟩⟩
 have k0:wb.cell? ⟨w.heap.size,0,none⟩=some (.int .u8 3):=by rw [← h3];exact tt.cell_at (HR.out _ hbx) 0 _ rfl
 have k3:wb.cell? ⟨w.heap.size,3,none⟩=some (.int .i64 (b:Int)):=by rw [← hbn];exact tt.cell_at (HR.out _ hbx) 3 _ rfl
 have HEV:=qh hev
 have HBL:=qh hbl
 have HG:=qh hgb
 have HBX:=qh hbx
 have HNB:=qh hbn
 have HLH:Hid (h < w.heap.size):=qh A.lt
 have HOL:Hid (∀ i,F.own h i→i < w.heap.size):=qh fun i hi=>A.own_lt hi
 have hlt:(b:Int) < (H.en.length:Int):=by omega
 have hle:(0:Int) ≤ (b:Int):=by omega
 obtain ⟨q,hq⟩:∃ q,q=H.en.length:=⟨_,rfl⟩
 have HQL:=qh hq
 rw [← hq] at hlt HK
 have HTK:=qh htk
 clear A hgb hbx hbl hans hes hev hq hb hb0 hn htk h3 hbn
 generalize hgr:back (enOf H b) n.f n.q=r at *
 obtain ⟨⟨ro,rs⟩,rt,re⟩:=r
 obtain rfl:rt=tk:=HTK.out
 clear hgr HGE HTK
 generalize enOf H b=eb at *
 obtain ⟨eo,es⟩:=eb
 dsimp only at *
 go_enter Tryz.func48,Tryz.ntmps48
 go_wp2_with fail
 clear hwb k0 k3
 refine wp_region_held_drew (S:=fun w'=>wb.grownBy w' none) (by kernel_rfl) (tt.grown_drew (grown_refl _ _)) (fun hHeld=>?_)
 generalize wb.drew=wd at hHeld ⊢
 refine tl 0 ?_ rfl ?_ ?_ (tl 1 ?_ rfl ?_ ?_ (tl 2 ?_ rfl ?_ ?_ (tl 3 ?_ rfl ?_ ?_ (tl 4 ?_ rfl ?_ ?_ (tl 5 ?_ rfl ?_ ?_ ?_)))))
 iterate 6 (rotate_left;(next=>(try simp only [lay]);((intro w0 hSw;obtain ⟨hs0,⟨hs1,hs2⟩,⟨hs3,hs4⟩⟩:=HK.out w0 hSw;go_simp);try (with_reducible rfl)));next=>rfl)
 try simp only [lay]
 refine tl 6 ?_ rfl ?_ ?_ (tl 7 ?_ rfl ?_ ?_ (tl 8 ?_ rfl ?_ ?_ (tl 9 ?_ rfl ?_ ?_ (tl 10 ?_ rfl ?_ ?_ ?_))))
 iterate 5 (rotate_left;(next=>(try simp only [lay]);((intro w0 hSw;obtain ⟨hs0,⟨hs1,hs2⟩,⟨hs3,hs4⟩⟩:=HK.out w0 hSw;go_simp);try (with_reducible rfl)));next=>rfl)
 try simp only [lay]
 have HD0:=qh hHeld
 refine wpAnyH_ready (rs:=[11,16]) (by kernel_rfl) (by simp) ?_
 refine ac rfl (fun K hK=>?_) (ac rfl (fun K hK=>?_) AllReadyH.nil)
 ·skip
  go_simp
  (with_reducible refine (HQ.out _).mono ?_);rintro e wg ⟨rfl,hg5⟩;have HGG:=qh (grown_trans hHeld hg5)
  go_wp2_with fail
  refine hK.out _ _ HGG.out (fun hHeld=>?_)
  clear hK K
  try simp only [lay]
  refine tl 12 ?_ rfl ?_ ?_ (tl 13 ?_ rfl ?_ ?_ (tl 14 ?_ rfl ?_ ?_ (tl 15 ?_ rfl ?_ ?_ ?_)))
  iterate 4 (rotate_left;(next=>(try simp only [lay]);((intro w0 hSw;go_simp);try (with_reducible rfl)));next=>rfl)
  try simp only [lay]
  refine rd 16 rfl fun K hK=>?_
  go_simp
  refine hK.out _ _ (grown_alloc HGG.out _) (fun hHeld=>?_)
  clear hK K
  try simp only [lay]
  refine rd 17 rfl fun K hK=>?_
  go_simp
  refine hK.out _ _ (grown_alloc HGG.out _) (fun hHeld=>?_)
  clear hK K
  try simp only [lay]
  refine tl 18 ?_ rfl ?_ ?_ (tl 19 ?_ rfl ?_ ?_ ?_)
  iterate 2 (rotate_left;(next=>(try simp only [lay]);((intro w0 hSw;go_simp);try (with_reducible rfl)));next=>rfl)
  try simp only [lay]
  refine wpAnyH_done (by kernel_rfl) ?_ _
  clear hHeld
  go_wp2_with fail
  obtain ⟨wX,hX⟩:∃ wX,wg.alloc (.cells #[.int .i64 ro,.int .u32 (rs:Int)] 58)=wX:=⟨_,rfl⟩
  have hgd:wb.grownBy wX.drew none:=by rw [← hX];exact tt.grown_drew (grown_alloc HGG.out _)
  have h7:wX.drew.heap[wg.heap.size]?=some (.cells #[.int .i64 ro,.int .u32 (rs:Int)] 58 (0,0)):=by rw [← hX];exact heap_alloc_new _ _
  have HW7:Hid (wb.heap.size ≤ wg.heap.size):=qh HGG.out.size
  rw [hX]
  obtain ⟨B7,hB⟩:∃ B,wg.heap.size=B:=⟨_,rfl⟩
  rw [hB] at h7 HW7 ⊢
  clear hB hX
  have HKF:Hid (∀ w':World,(w'.heap[h]?=some (.cells (F.cells c) 55 (0,0))∧w'.heap[B7]?=some (.cells #[.int .i64 ro,.int .u32 (rs:Int)] 58 (0,0)))→w'.cell? ⟨h,9,none⟩=some (.slice (some ⟨g,off,none⟩) q cap)∧w'.cell? ⟨B7,0,none⟩=some (.int .i64 ro)∧w'.cell? ⟨B7,1,none⟩=some (.int .u32 (rs:Int))):=qh fun w' ⟨e1,e2⟩=>⟨by have h9:w'.cell? ⟨h,9,none⟩=some F.ev:=cr e1 9 rfl;rw [h9,HEV.out,← HQL.out],cr e2 0 rfl,cr e2 1 rfl⟩
  refine wp_region_held_drew (S:=fun w'=>w'.heap[h]?=some (.cells (F.cells c) 55 (0,0))∧w'.heap[B7]?=some (.cells #[.int .i64 ro,.int .u32 (rs:Int)] 58 (0,0))) (by kernel_rfl) ⟨(HA.out _ hgd).blk,h7⟩ (fun hHeld=>?_)
  generalize wX.drew=wd2 at hgd h7 hHeld ⊢
  refine tl 0 ?_ rfl ?_ ?_ (tl 1 ?_ rfl ?_ ?_ (tl 2 ?_ rfl ?_ ?_ (tl 3 ?_ rfl ?_ ?_ (tl 4 ?_ rfl ?_ ?_ (tl 5 ?_ rfl ?_ ?_ (tl 6 ?_ rfl ?_ ?_ ?_))))))
  iterate 7 (rotate_left;(next=>(try simp only [lay]);((intro w0 hSw;obtain ⟨hs0,hs1,hs2⟩:=HKF.out w0 hSw;go_simp);try (with_reducible rfl)));next=>rfl)
  try simp only [lay]
  have hAd:=HA.out _ hgd
  obtain ⟨hAs,hgs⟩:=hAd.setEnt HEV.out HBL.out ⟨ro,rs⟩ HIE.out
  obtain ⟨g',off',cap',hev',hf,hcell⟩:=hAd.entAt HBL.out
  rw [HEV.out] at hev'
  cases hev'
  have c0:=hcell 0 _ rfl
  have c1:=hcell 1 _ rfl
  rw [Nat.add_zero] at c0
  have f0:=hf (off + b * 2)
  have f1:=hf (off + b * 2 + 1)
  obtain ⟨ws,hws⟩:∃ ws,wd2.setCells g (off + b * 2) (et ⟨ro,rs⟩)=ws:=⟨_,rfl⟩
  have hws':(wd2.setCell ⟨g,off + b * 2,none⟩ (.int .i64 ro)).setCell ⟨g,off + b * 2 + 1,none⟩ (.int .u32 (rs:Int))=ws:=hws
  rw [hws] at hAs hgs
  have hd1:RDid wd2 ws h F F:=RDid.of_own hgs (fun i e=> .inr (.inr (.inl (by cases e;rw [HEV.out];rfl))))
  have hn7:¬ F.own h B7:=fun e=>by have:=HOL.out _ e;have:=HW7.out;have:=HG.out.size;omega
  have HK1:Hid (ws.heap[h]?=some (.cells (F.cells c) 55 (0,0))∧ws.heap[B7]?=some (.cells #[.int .i64 ro,.int .u32 (rs:Int)] 58 (0,0))):=qh ⟨hAs.blk,hd1.heap h7 hn7⟩
  have HD:=qh ((RDid.of_grown h F hgd).trans hd1)
  have HAS:=qh hAs
  have HBS:=qh (HD.out.heap HBX.out (fun e=>by have:=HOL.out _ e;omega))
  clear hAd hgs hcell hf hws hd1 hn7 hAs
  refine rd 7 rfl fun K hK=>?_
  go_simp
  refine hK.out _ _ HK1.out (fun hHeld=>?_)
  clear hK K
  try simp only [lay]
  refine wpAnyH_done (by kernel_rfl) ?_ _
  clear hHeld hws' c0 c1 f0 f1 h7
  cases rt with
  | false=>
   have HAY:Hid (RefAt ws h c F { H with en:=H.en.set b ⟨ro,rs⟩,mm:=H.mm }):=qh HAS.out
   have HBY:=qh HBS.out
   obtain ⟨x,hx⟩:∃ x,x=bare 8 (-1) n.f (b:Int) 0 0 false false:=⟨_,rfl⟩
   have hn1:=tt.na_size x
   have hn2:=tt.build_na x
   have hn3:=(tt.bare_na 8 (-1) n.f (b:Int) 0 0 false false).symm
   rw [← hx] at hn3
   have HXX:=qh hx
   clear hx
   have y1:ws.cell? ⟨w.heap.size,1,none⟩=some (.int .i64 n.f):=tt.cell_at (HR.out _ HBY.out) 1 _ rfl
   go_wp2_with fail
   have hgf:ws.grownBy (ws.alloc (.cells (na x) 45)) none:=grown_alloc (grown_refl _ _) _
   go_ret
   refine ⟨_,rfl,HAY.out.grown hgf,?_,((RDid.of_grown _ _ HG.out).trans HD.out).trans (RDid.of_grown _ _ hgf),fun k hk=>?_⟩
   ·rw [HNB.out,← HXX.out]
    exact nsl_one (heap_alloc_new _ _)
   ·have h1:=lt_of HBY.out
    simp [Value.ownBlock] at hk
    omega
  | true=>
   go_wp2_with fail
   obtain ⟨tB,mB,HTB,haggB,hsizeB,hldB⟩:=nameB
   have HKM:Hid (∀ w':World,(w'.heap[h]?=some (.cells (F.cells c) 55 (0,0))∧w'.heap[w.heap.size]?=some (.cells (na n) 45 (0,0)))→w'.cell? ⟨h,8,none⟩=some (.pointer (some ⟨F.mb,0,none⟩))∧(loadCellsFrom ⟨w.heap.size,8,none⟩ 0 mB #[]).run Tryz.prog w' = .ok (pp.row n.d) w'):=qh fun w' ⟨e1,e2⟩=>⟨cr e1 8 rfl,hldB _ n w' (HR.out w' e2)⟩
   have HAW:=qh (HAS.out.grown (w':=ws.drew) (tt.grown_drew (grown_refl _ _)))
   have HBW:Hid (ws.drew.heap[w.heap.size]?=some (.cells (na n) 45 (0,0))):=qh HBS.out
   have HDW:=qh (HD.out.trans (RDid.of_grown h F (tt.grown_drew (grown_refl ws none))))
   clear hldB
   rw [HTB.out]
   refine wp_region_held_drew (S:=fun w'=>w'.heap[h]?=some (.cells (F.cells c) 55 (0,0))∧w'.heap[w.heap.size]?=some (.cells (na n) 45 (0,0))) (by kernel_rfl) ⟨HAW.out.blk,HBW.out⟩ (fun hHeld=>?_)
   generalize ws.drew=wv at hHeld HAW HBW HDW ⊢
   refine tl 0 ?_ rfl ?_ ?_ (tl 1 ?_ rfl ?_ ?_ (tl 2 ?_ rfl ?_ ?_ (tl 3 ?_ rfl ?_ ?_ (tl 4 ?_ rfl ?_ ?_ (tl 5 ?_ rfl ?_ ?_ (tl 6 ?_ rfl ?_ ?_ ?_))))))
   iterate 7 (rotate_left;(next=>(try simp only [lay]);((intro w0 hSw;obtain ⟨hs0,hs1⟩:=HKM.out w0 hSw;go_simp);try (with_reducible rfl)));next=>rfl)
   try simp only [lay]
   have HSB:=qh (pp.rset_block_any F.mb F.mv H.mm (b:Int) n.d n.hd wv HAW.out.mem)
   rw [(getB_row HBM.out).2,setB_in HBM.out] at HSB
   refine rd 7 rfl fun K hK=>?_
   go_simp
   (with_reducible refine HSB.out.mono ?_);rintro e wy ⟨rfl,hM,hgM⟩
   have hAY:=HAW.out.setMem hM hgM HI2.out
   have hnm:some w.heap.size ≠ F.mv.ownBlock:=fun e=>by
    obtain ⟨_,hb⟩:=HAW.out.mem.bl _ e.symm;exact tyne HBW.out hb (by decide) rfl
   have HBY:=qh ((hgM.block _ (lt_of HBW.out) hnm).trans HBW.out)
   have HAY:=qh hAY
   have HD:=qh (HDW.out.trans (RDid.of_own hgM (fun i e=> .inr (.inl e))))
   clear hM hgM hAY hnm
   go_wp2_with fail
   refine hK.out _ _ ⟨HAY.out.blk,HBY.out⟩ (fun hHeld=>?_)
   clear hK K
   try simp only [lay]
   refine wpAnyH_done (by kernel_rfl) ?_ _
   clear hHeld
   obtain ⟨x,hx⟩:∃ x,x=bare 8 (-1) n.f (b:Int) 0 0 false false:=⟨_,rfl⟩
   have hn1:=tt.na_size x
   have hn2:=tt.build_na x
   have hn3:=(tt.bare_na 8 (-1) n.f (b:Int) 0 0 false false).symm
   rw [← hx] at hn3
   have HXX:=qh hx
   clear hx
   have y1:wy.cell? ⟨w.heap.size,1,none⟩=some (.int .i64 n.f):=tt.cell_at (HR.out _ HBY.out) 1 _ rfl
   go_wp2_with fail
   have hgf:wy.grownBy (wy.alloc (.cells (na x) 45)) none:=grown_alloc (grown_refl _ _) _
   go_ret
   refine ⟨_,rfl,HAY.out.grown hgf,?_,((RDid.of_grown _ _ HG.out).trans HD.out).trans (RDid.of_grown _ _ hgf),fun k hk=>?_⟩
   ·rw [HNB.out,← HXX.out]
    exact nsl_one (heap_alloc_new _ _)
   ·have h1:=lt_of HBY.out
    simp [Value.ownBlock] at hk
    omega
 ·skip
  go_simp
  refine hK.out _ _ (grown_alloc HD0.out _) (fun hHeld=>?_)
  clear hK K
  try simp only [lay]
  refine rd 11 rfl fun K hK=>?_
  go_simp
  (with_reducible refine (HQ.out _).mono ?_);rintro e wg ⟨rfl,hg5⟩;have HGG:=qh (grown_trans hHeld hg5);have HZ7:=qh ((hg5.block wd.heap.size (by simp) (by simp)).trans (heap_alloc_new _ _))
  go_wp2_with fail
  refine hK.out _ _ HGG.out (fun hHeld=>?_)
  clear hK K
  try simp only [lay]
  refine tl 12 ?_ rfl ?_ ?_ (tl 13 ?_ rfl ?_ ?_ (tl 14 ?_ rfl ?_ ?_ (tl 15 ?_ rfl ?_ ?_ ?_)))
  iterate 4 (rotate_left;(next=>(try simp only [lay]);((intro w0 hSw;go_simp);try (with_reducible rfl)));next=>rfl)
  try simp only [lay]
  have z0:=cr HZ7.out 0 rfl
  have z1:=cr HZ7.out 1 rfl
  have zf0:wg.frozen? ⟨wd.heap.size,0,none⟩=false:=by simp [World.frozen?,HZ7.out]
  have zf1:wg.frozen? ⟨wd.heap.size,1,none⟩=false:=by simp [World.frozen?,HZ7.out]
  refine rd 17 rfl fun K hK=>?_
  go_simp
  refine hK.out _ _ (grown_put HGG.out HD0.out.size) (fun hHeld=>?_)
  clear hK K
  try simp only [lay]
  refine tl 18 ?_ rfl ?_ ?_ (tl 19 ?_ rfl ?_ ?_ ?_)
  iterate 2 (rotate_left;(next=>(try simp only [lay]);((intro w0 hSw;go_simp);try (with_reducible rfl)));next=>rfl)
  try simp only [lay]
  refine wpAnyH_done (by kernel_rfl) ?_ _
  clear hHeld z0 z1 zf0 zf1
  go_wp2_with fail
  obtain ⟨wX,hX⟩:∃ wX,(wg.setCell ⟨wd.heap.size,0,none⟩ (.int .i64 ro)).setCell ⟨wd.heap.size,1,none⟩ (.int .u32 (rs:Int))=wX:=⟨_,rfl⟩
  have hgd:wb.grownBy wX.drew none:=by rw [← hX];exact tt.grown_drew (grown_put HGG.out HD0.out.size)
  have h7:wX.drew.heap[wd.heap.size]?=some (.cells #[.int .i64 ro,.int .u32 (rs:Int)] 58 (0,0)):=by rw [← hX];exact put_two HZ7.out _ _
  have HW7:Hid (wb.heap.size ≤ wd.heap.size):=qh HD0.out.size
  rw [hX]
  obtain ⟨B7,hB⟩:∃ B,wd.heap.size=B:=⟨_,rfl⟩
  rw [hB] at h7 HW7 ⊢
  clear hB hX
  have HKF:Hid (∀ w':World,(w'.heap[h]?=some (.cells (F.cells c) 55 (0,0))∧w'.heap[B7]?=some (.cells #[.int .i64 ro,.int .u32 (rs:Int)] 58 (0,0)))→w'.cell? ⟨h,9,none⟩=some (.slice (some ⟨g,off,none⟩) q cap)∧w'.cell? ⟨B7,0,none⟩=some (.int .i64 ro)∧w'.cell? ⟨B7,1,none⟩=some (.int .u32 (rs:Int))):=qh fun w' ⟨e1,e2⟩=>⟨by have h9:w'.cell? ⟨h,9,none⟩=some F.ev:=cr e1 9 rfl;rw [h9,HEV.out,← HQL.out],cr e2 0 rfl,cr e2 1 rfl⟩
  refine wp_region_held_drew (S:=fun w'=>w'.heap[h]?=some (.cells (F.cells c) 55 (0,0))∧w'.heap[B7]?=some (.cells #[.int .i64 ro,.int .u32 (rs:Int)] 58 (0,0))) (by kernel_rfl) ⟨(HA.out _ hgd).blk,h7⟩ (fun hHeld=>?_)
  generalize wX.drew=wd2 at hgd h7 hHeld ⊢
  refine tl 0 ?_ rfl ?_ ?_ (tl 1 ?_ rfl ?_ ?_ (tl 2 ?_ rfl ?_ ?_ (tl 3 ?_ rfl ?_ ?_ (tl 4 ?_ rfl ?_ ?_ (tl 5 ?_ rfl ?_ ?_ (tl 6 ?_ rfl ?_ ?_ ?_))))))
  iterate 7 (rotate_left;(next=>(try simp only [lay]);((intro w0 hSw;obtain ⟨hs0,hs1,hs2⟩:=HKF.out w0 hSw;go_simp);try (with_reducible rfl)));next=>rfl)
  try simp only [lay]
  have hAd:=HA.out _ hgd
  obtain ⟨hAs,hgs⟩:=hAd.setEnt HEV.out HBL.out ⟨ro,rs⟩ HIE.out
  obtain ⟨g',off',cap',hev',hf,hcell⟩:=hAd.entAt HBL.out
  rw [HEV.out] at hev'
  cases hev'
  have c0:=hcell 0 _ rfl
  have c1:=hcell 1 _ rfl
  rw [Nat.add_zero] at c0
  have f0:=hf (off + b * 2)
  have f1:=hf (off + b * 2 + 1)
  obtain ⟨ws,hws⟩:∃ ws,wd2.setCells g (off + b * 2) (et ⟨ro,rs⟩)=ws:=⟨_,rfl⟩
  have hws':(wd2.setCell ⟨g,off + b * 2,none⟩ (.int .i64 ro)).setCell ⟨g,off + b * 2 + 1,none⟩ (.int .u32 (rs:Int))=ws:=hws
  rw [hws] at hAs hgs
  have hd1:RDid wd2 ws h F F:=RDid.of_own hgs (fun i e=> .inr (.inr (.inl (by cases e;rw [HEV.out];rfl))))
  have hn7:¬ F.own h B7:=fun e=>by have:=HOL.out _ e;have:=HW7.out;have:=HG.out.size;omega
  have HK1:Hid (ws.heap[h]?=some (.cells (F.cells c) 55 (0,0))∧ws.heap[B7]?=some (.cells #[.int .i64 ro,.int .u32 (rs:Int)] 58 (0,0))):=qh ⟨hAs.blk,hd1.heap h7 hn7⟩
  have HD:=qh ((RDid.of_grown h F hgd).trans hd1)
  have HAS:=qh hAs
  have HBS:=qh (HD.out.heap HBX.out (fun e=>by have:=HOL.out _ e;omega))
  clear hAd hgs hcell hf hws hd1 hn7 hAs
  refine rd 7 rfl fun K hK=>?_
  go_simp
  refine hK.out _ _ HK1.out (fun hHeld=>?_)
  clear hK K
  try simp only [lay]
  refine wpAnyH_done (by kernel_rfl) ?_ _
  clear hHeld hws' c0 c1 f0 f1 h7
  cases rt with
  | false=>
   have HAY:Hid (RefAt ws h c F { H with en:=H.en.set b ⟨ro,rs⟩,mm:=H.mm }):=qh HAS.out
   have HBY:=qh HBS.out
   obtain ⟨x,hx⟩:∃ x,x=bare 8 (-1) n.f (b:Int) 0 0 false false:=⟨_,rfl⟩
   have hn1:=tt.na_size x
   have hn2:=tt.build_na x
   have hn3:=(tt.bare_na 8 (-1) n.f (b:Int) 0 0 false false).symm
   rw [← hx] at hn3
   have HXX:=qh hx
   clear hx
   have y1:ws.cell? ⟨w.heap.size,1,none⟩=some (.int .i64 n.f):=tt.cell_at (HR.out _ HBY.out) 1 _ rfl
   go_wp2_with fail
   have hgf:ws.grownBy (ws.alloc (.cells (na x) 45)) none:=grown_alloc (grown_refl _ _) _
   go_ret
   refine ⟨_,rfl,HAY.out.grown hgf,?_,((RDid.of_grown _ _ HG.out).trans HD.out).trans (RDid.of_grown _ _ hgf),fun k hk=>?_⟩
   ·rw [HNB.out,← HXX.out]
    exact nsl_one (heap_alloc_new _ _)
   ·have h1:=lt_of HBY.out
    simp [Value.ownBlock] at hk
    omega
  | true=>
   go_wp2_with fail
   obtain ⟨tB,mB,HTB,haggB,hsizeB,hldB⟩:=nameB
   have HKM:Hid (∀ w':World,(w'.heap[h]?=some (.cells (F.cells c) 55 (0,0))∧w'.heap[w.heap.size]?=some (.cells (na n) 45 (0,0)))→w'.cell? ⟨h,8,none⟩=some (.pointer (some ⟨F.mb,0,none⟩))∧(loadCellsFrom ⟨w.heap.size,8,none⟩ 0 mB #[]).run Tryz.prog w' = .ok (pp.row n.d) w'):=qh fun w' ⟨e1,e2⟩=>⟨cr e1 8 rfl,hldB _ n w' (HR.out w' e2)⟩
   have HAW:=qh (HAS.out.grown (w':=ws.drew) (tt.grown_drew (grown_refl _ _)))
   have HBW:Hid (ws.drew.heap[w.heap.size]?=some (.cells (na n) 45 (0,0))):=qh HBS.out
   have HDW:=qh (HD.out.trans (RDid.of_grown h F (tt.grown_drew (grown_refl ws none))))
   clear hldB
   rw [HTB.out]
   refine wp_region_held_drew (S:=fun w'=>w'.heap[h]?=some (.cells (F.cells c) 55 (0,0))∧w'.heap[w.heap.size]?=some (.cells (na n) 45 (0,0))) (by kernel_rfl) ⟨HAW.out.blk,HBW.out⟩ (fun hHeld=>?_)
   generalize ws.drew=wv at hHeld HAW HBW HDW ⊢
   refine tl 0 ?_ rfl ?_ ?_ (tl 1 ?_ rfl ?_ ?_ (tl 2 ?_ rfl ?_ ?_ (tl 3 ?_ rfl ?_ ?_ (tl 4 ?_ rfl ?_ ?_ (tl 5 ?_ rfl ?_ ?_ (tl 6 ?_ rfl ?_ ?_ ?_))))))
   iterate 7 (rotate_left;(next=>(try simp only [lay]);((intro w0 hSw;obtain ⟨hs0,hs1⟩:=HKM.out w0 hSw;go_simp);try (with_reducible rfl)));next=>rfl)
   try simp only [lay]
   have HSB:=qh (pp.rset_block_any F.mb F.mv H.mm (b:Int) n.d n.hd wv HAW.out.mem)
   rw [(getB_row HBM.out).2,setB_in HBM.out] at HSB
   refine rd 7 rfl fun K hK=>?_
   go_simp
   (with_reducible refine HSB.out.mono ?_);rintro e wy ⟨rfl,hM,hgM⟩
   have hAY:=HAW.out.setMem hM hgM HI2.out
   have hnm:some w.heap.size ≠ F.mv.ownBlock:=fun e=>by
    obtain ⟨_,hb⟩:=HAW.out.mem.bl _ e.symm;exact tyne HBW.out hb (by decide) rfl
   have HBY:=qh ((hgM.block _ (lt_of HBW.out) hnm).trans HBW.out)
   have HAY:=qh hAY
   have HD:=qh (HDW.out.trans (RDid.of_own hgM (fun i e=> .inr (.inl e))))
   clear hM hgM hAY hnm
   go_wp2_with fail
   refine hK.out _ _ ⟨HAY.out.blk,HBY.out⟩ (fun hHeld=>?_)
   clear hK K
   try simp only [lay]
   refine wpAnyH_done (by kernel_rfl) ?_ _
   clear hHeld
   obtain ⟨x,hx⟩:∃ x,x=bare 8 (-1) n.f (b:Int) 0 0 false false:=⟨_,rfl⟩
   have hn1:=tt.na_size x
   have hn2:=tt.build_na x
   have hn3:=(tt.bare_na 8 (-1) n.f (b:Int) 0 0 false false).symm
   rw [← hx] at hn3
   have HXX:=qh hx
   clear hx
   have y1:wy.cell? ⟨w.heap.size,1,none⟩=some (.int .i64 n.f):=tt.cell_at (HR.out _ HBY.out) 1 _ rfl
   go_wp2_with fail
   have hgf:wy.grownBy (wy.alloc (.cells (na x) 45)) none:=grown_alloc (grown_refl _ _) _
   go_ret
   refine ⟨_,rfl,HAY.out.grown hgf,?_,((RDid.of_grown _ _ HG.out).trans HD.out).trans (RDid.of_grown _ _ hgf),fun k hk=>?_⟩
   ·rw [HNB.out,← HXX.out]
    exact nsl_one (heap_alloc_new _ _)
   ·have h1:=lt_of HBY.out
    simp [Value.ownBlock] at hk
    omega
end
end Go.Proofs.YtenhdijbcdkfbaaGreatDoor.hh
