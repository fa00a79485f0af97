/-
 What the document's answer makes of its home: contract. No condition but what it names.
-/
import Derived.Test.YtenhdijbcdkfbaaGreatDoorTl
import Derived.Test.YtenhdijbcdkfbaaGreatDoorRhF
import Derived.Test.YtenhdijbcdkfbaaGreatDoorHe
import Derived.Test.YtenhdijbcdkfbaaGreatDoorMf
namespace Go.Proofs.YtenhdijbcdkfbaaGreatDoor.hh
set_option linter.unusedVariables false
set_option linter.unusedSimpArgs false
set_option maxRecDepth 1000000
set_option maxHeartbeats 16000000
open Go Go.ChangeShapes Go.WideShapes Go.ChangeAt Go.RowKit
open Go.Proofs.YtenhdijbcdkfbaaGreatDoor.tt (Nt Cfg fits net bare zd usd uses coreOf ok_ends MapAt mput mdel ik NSl flat na nt zn grown_alloc grown_refl grown_trans tyne lt_of)
open Go.Proofs.YtenhdijbcdkfbaaGreatDoor.en (En gets back asked asks free ask_parts may_parts ea)
open Go.Proofs.YtenhdijbcdkfbaaGreatDoor.mm (wi wo ones wo_lt)
section
variable {w:World} {h:Nat} {c:Cfg} {F:Fr} {H:Hm}
theorem ranswer_any (A:RefAt w h c F H) (b:Nat) (hb:b < c.data.toNat) (j:Jb) (hj:jbOf H b=some j):Calls Tryz.prog 52 #[.pointer (some ⟨h,0,none⟩),.int .i64 (b:Int)] w fun e w'=>∃ v,e = .returned v ∧
  RefAt w' h c F (answer H b).1∧NSl w' v (answer H b).2∧RDid w w' h F F∧∀ k,v.ownBlock=some k→w.heap.size ≤ k:=by
 have hjg:=jbOf_get hj
 have hjo:=A.inv.jobs b j hjg
 have hbl:b < H.en.length:=by rw [A.inv.le];exact hb
 have hbj:b < H.jb.length:=by rw [A.inv.lj];exact hb
 have hans:answer H b=({ H with en:=H.en.set b (gets (enOf H b) j.a.k j.a.f).1,jb:=H.jb.set b (some { j with d:=true }) },[dataN j.a.f b (gets (enOf H b) j.a.k j.a.f).2.1 (rowOf H b)]):=by unfold answer;rw [hj]
 have HI2:=qh (A.inv.answer b)
 rw [hans] at HI2
 rw [hans]
 have HIE:Hid (Inv c { H with en:=H.en.set b (gets (enOf H b) j.a.k j.a.f).1 }):=qh ⟨A.inv.may,HI2.out.le,A.inv.lj,A.inv.lm,A.inv.rows,HI2.out.ents,A.inv.jobs,A.inv.wait⟩
 have HBM:Hid (b < H.mm.length):=qh (by rw [A.inv.lm];have h1:=A.inv.may.2;have h2:=data_le A.inv.may;omega)
 have hes:(enOf H b).s < 4294967296:=by
  have:=(may_parts (o:=(enOf H b).o) (s:=(enOf H b).s) (ents_of A.inv b)).2.2.1;omega
 have HQ:Hid (∀ w,_):=qh fun w=>en.rgets_any (enOf H b).o (enOf H b).s j.a.k j.a.f w hes
 have HGE:Hid (gets ⟨(enOf H b).o,(enOf H b).s⟩ j.a.k j.a.f=gets (enOf H b) j.a.k j.a.f):=qh rfl
 unfold en.got at HQ
 rw [HGE.out] at HQ
 obtain ⟨g,off,cap,hev,_,_⟩:=A.entAt hbl
 obtain ⟨gj,oj,cj,hjv,hjr⟩:=A.jobRange hbj
 have hjb:jbOf H b=some j:=hj
 rw [hjb] at hjr
 have HAK:=qh (ask_range hjr)
 have p10:w.cell? ⟨h,10,none⟩=some (.slice (some ⟨gj,oj,none⟩) H.jb.length cj):=by rw [A.parts.2.2.1,hjv]
 obtain ⟨wb,hwb⟩:∃ wb,w.alloc (.cells (na j.a) 45)=wb:=⟨_,rfl⟩
 have hgb:w.grownBy wb none:=by rw [← hwb];exact grown_alloc (grown_refl _ _) _
 have hbx:wb.heap[w.heap.size]?=some (.cells (na j.a) 45 (0,0)):=by rw [← hwb];exact heap_alloc_new _ _
 have HA:Hid (∀ w',wb.grownBy w' none→RefAt w' h c F H):=qh fun w' h'=>A.grown (grown_trans hgb h')
 have HR:Hid (∀ w',wb.grownBy w' none→w'.rangeAt w.heap.size 0 (nt j.a)):=qh fun w' h=>tt.range_grown (tt.range_of hbx) h (by simp)
 have HK:Hid (∀ w',wb.grownBy w' none→(w'.cell? ⟨h,9,none⟩=some (.slice (some ⟨g,off,none⟩) H.en.length cap))∧(w'.cell? ⟨g,off + b * 2,none⟩=some (.int .i64 (enOf H b).o)∧w'.cell? ⟨g,off + b * 2 + 1,none⟩=some (.int .u32 ((enOf H b).s:Int)))∧(w'.cell? ⟨w.heap.size,0,none⟩=some (.int .u8 j.a.k)∧w'.cell? ⟨w.heap.size,1,none⟩=some (.int .i64 j.a.f))):=qh fun w' h'=>by
  have hA:=HA.out w' h'
  obtain ⟨g',off',cap',hev',_,hr⟩:=hA.entAt hbl
  rw [hev] at hev';cases hev'
  exact ⟨by rw [hA.parts.2.1,hev],⟨hr 0 _ rfl,hr 1 _ rfl⟩,⟨tt.cell_at (HR.out w' h') 0 _ rfl,tt.cell_at (HR.out w' h') 1 _ rfl⟩⟩
 have HRL:=qh (rowOf_len A.inv b)
 have HEV:=qh hev
 have HJV:=qh hjv
 have HJG:=qh hjg
 have HBL:=qh hbl
 have HG:=qh hgb
 have HBX:=qh hbx
 have HWB:=qh hwb
 have HLH:Hid (h < w.heap.size):=qh A.lt
 have HOL:Hid (∀ i,F.own h i→i < w.heap.size):=qh fun i hi=>A.own_lt hi
 have hlt:(b:Int) < (H.en.length:Int):=by omega
 have hltj:(b:Int) < (H.jb.length:Int):=by omega
 have hle:(0:Int) ≤ (b:Int):=by omega
 obtain ⟨q,hq⟩:∃ q,q=H.en.length:=⟨_,rfl⟩
 obtain ⟨qj,hqj⟩:∃ q,q=H.jb.length:=⟨_,rfl⟩
 have HQL:=qh hq
 have HQJ:=qh hqj
 rw [← hq] at hlt HK
 rw [← hqj] at hltj p10
 clear A hgb hbx hwb hbl hbj hj hjg hjo hjb hjr hans hes hev hjv hq hqj hb
 obtain ⟨n,hn⟩:∃ n,n=j.a:=⟨_,rfl⟩
 have HNJ:=qh hn
 rw [← hn] at HI2 HIE HQ HGE HAK HR HK HBX HWB ⊢
 clear hn
 generalize gets (enOf H b) n.k n.f=r at *
 obtain ⟨⟨ro,rs⟩,rt,re⟩:=r
 generalize enOf H b=eb at *
 obtain ⟨eo,es⟩:=eb
 dsimp only at *
 go_enter Tryz.func52,Tryz.ntmps52
 go_wp2_with (first
  | ((with_reducible refine tt.load_na n _ gj (oj + b * 29 + 1) ?_ HAK.out ?_);(rfl))
  | ((with_reducible refine tt.store_new n _ _ _ ?_ ?_ rfl ?_);(rfl);(rfl);rw [HWB.out]))
 refine wp_region_held_drew (S:=fun w'=>wb.grownBy w' none) (by kernel_rfl) (tt.grown_drew (grown_refl _ _)) (fun hHeld=>?_)
 generalize wb.drew=wd at hHeld ⊢
 refine tl 0 ?_ rfl ?_ ?_ (tl 1 ?_ rfl ?_ ?_ (tl 2 ?_ rfl ?_ ?_ (tl 3 ?_ rfl ?_ ?_ (tl 4 ?_ rfl ?_ ?_ (tl 5 ?_ rfl ?_ ?_ ?_)))))
 iterate 6 (rotate_left;(next=>(try simp only [lay]);((intro w0 hSw;obtain ⟨hs0,⟨hs1,hs2⟩,⟨hs3,hs4⟩⟩:=HK.out w0 hSw;go_simp);try (with_reducible rfl)));next=>rfl)
 try simp only [lay]
 refine tl 6 ?_ rfl ?_ ?_ (tl 7 ?_ rfl ?_ ?_ (tl 8 ?_ rfl ?_ ?_ (tl 9 ?_ rfl ?_ ?_ (tl 10 ?_ rfl ?_ ?_ ?_))))
 iterate 5 (rotate_left;(next=>(try simp only [lay]);((intro w0 hSw;obtain ⟨hs0,⟨hs1,hs2⟩,⟨hs3,hs4⟩⟩:=HK.out w0 hSw;go_simp);try (with_reducible rfl)));next=>rfl)
 try simp only [lay]
 have HD0:=qh hHeld
 refine wpAnyH_ready (rs:=[11,16]) (by kernel_rfl) (by simp) ?_
 refine ac rfl (fun K hK=>?_) (ac rfl (fun K hK=>?_) AllReadyH.nil)
 ·skip
  go_simp
  (with_reducible refine (HQ.out _).mono ?_);rintro e wg ⟨rfl,hg5⟩;have HGG:=qh (grown_trans hHeld hg5)
  go_wp2_with fail
  refine hK.out _ _ HGG.out (fun hHeld=>?_)
  clear hK K
  try simp only [lay]
  refine tl 12 ?_ rfl ?_ ?_ (tl 13 ?_ rfl ?_ ?_ (tl 14 ?_ rfl ?_ ?_ (tl 15 ?_ rfl ?_ ?_ ?_)))
  iterate 4 (rotate_left;(next=>(try simp only [lay]);((intro w0 hSw;go_simp);try (with_reducible rfl)));next=>rfl)
  try simp only [lay]
  refine rd 16 rfl fun K hK=>?_
  go_simp
  refine hK.out _ _ (grown_alloc HGG.out _) (fun hHeld=>?_)
  clear hK K
  try simp only [lay]
  refine rd 17 rfl fun K hK=>?_
  go_simp
  refine hK.out _ _ (grown_alloc HGG.out _) (fun hHeld=>?_)
  clear hK K
  try simp only [lay]
  refine tl 18 ?_ rfl ?_ ?_ (tl 19 ?_ rfl ?_ ?_ ?_)
  iterate 2 (rotate_left;(next=>(try simp only [lay]);((intro w0 hSw;go_simp);try (with_reducible rfl)));next=>rfl)
  try simp only [lay]
  refine wpAnyH_done (by kernel_rfl) ?_ _
  clear hHeld
  go_wp2_with fail
  obtain ⟨wX,hX⟩:∃ wX,wg.alloc (.cells #[.int .i64 ro,.int .u32 (rs:Int)] 58)=wX:=⟨_,rfl⟩
  have hgd:wb.grownBy wX.drew none:=by rw [← hX];exact tt.grown_drew (grown_alloc HGG.out _)
  have h7:wX.drew.heap[wg.heap.size]?=some (.cells #[.int .i64 ro,.int .u32 (rs:Int)] 58 (0,0)):=by rw [← hX];exact heap_alloc_new _ _
  have HW7:Hid (wb.heap.size ≤ wg.heap.size):=qh HGG.out.size
  rw [hX]
  obtain ⟨B7,hB⟩:∃ B,wg.heap.size=B:=⟨_,rfl⟩
  rw [hB] at h7 HW7 ⊢
  clear hB hX
  have HKF:Hid (∀ w':World,(w'.heap[h]?=some (.cells (F.cells c) 55 (0,0))∧w'.heap[B7]?=some (.cells #[.int .i64 ro,.int .u32 (rs:Int)] 58 (0,0)))→w'.cell? ⟨h,9,none⟩=some (.slice (some ⟨g,off,none⟩) q cap)∧w'.cell? ⟨B7,0,none⟩=some (.int .i64 ro)∧w'.cell? ⟨B7,1,none⟩=some (.int .u32 (rs:Int))):=qh fun w' ⟨e1,e2⟩=>⟨by have h9:w'.cell? ⟨h,9,none⟩=some F.ev:=cr e1 9 rfl;rw [h9,HEV.out,← HQL.out],cr e2 0 rfl,cr e2 1 rfl⟩
  refine wp_region_held_drew (S:=fun w'=>w'.heap[h]?=some (.cells (F.cells c) 55 (0,0))∧w'.heap[B7]?=some (.cells #[.int .i64 ro,.int .u32 (rs:Int)] 58 (0,0))) (by kernel_rfl) ⟨(HA.out _ hgd).blk,h7⟩ (fun hHeld=>?_)
  generalize wX.drew=wd2 at hgd h7 hHeld ⊢
  refine tl 0 ?_ rfl ?_ ?_ (tl 1 ?_ rfl ?_ ?_ (tl 2 ?_ rfl ?_ ?_ (tl 3 ?_ rfl ?_ ?_ (tl 4 ?_ rfl ?_ ?_ (tl 5 ?_ rfl ?_ ?_ (tl 6 ?_ rfl ?_ ?_ ?_))))))
  iterate 7 (rotate_left;(next=>(try simp only [lay]);((intro w0 hSw;obtain ⟨hs0,hs1,hs2⟩:=HKF.out w0 hSw;go_simp);try (with_reducible rfl)));next=>rfl)
  try simp only [lay]
  have hAd:=HA.out _ hgd
  obtain ⟨hAs,hgs⟩:=hAd.setEnt HEV.out HBL.out ⟨ro,rs⟩ HIE.out
  obtain ⟨g',off',cap',hev',hf,hcell⟩:=hAd.entAt HBL.out
  rw [HEV.out] at hev'
  cases hev'
  have c0:=hcell 0 _ rfl
  have c1:=hcell 1 _ rfl
  rw [Nat.add_zero] at c0
  have f0:=hf (off + b * 2)
  have f1:=hf (off + b * 2 + 1)
  obtain ⟨ws,hws⟩:∃ ws,wd2.setCells g (off + b * 2) (et ⟨ro,rs⟩)=ws:=⟨_,rfl⟩
  have hws':(wd2.setCell ⟨g,off + b * 2,none⟩ (.int .i64 ro)).setCell ⟨g,off + b * 2 + 1,none⟩ (.int .u32 (rs:Int))=ws:=hws
  rw [hws] at hAs hgs
  have hd1:RDid wd2 ws h F F:=RDid.of_own hgs (fun i e=> .inr (.inr (.inl (by cases e;rw [HEV.out];rfl))))
  have hn7:¬ F.own h B7:=fun e=>by have:=HOL.out _ e;have:=HW7.out;have:=HG.out.size;omega
  have HK1:Hid (ws.heap[h]?=some (.cells (F.cells c) 55 (0,0))∧ws.heap[B7]?=some (.cells #[.int .i64 ro,.int .u32 (rs:Int)] 58 (0,0))):=qh ⟨hAs.blk,hd1.heap h7 hn7⟩
  obtain ⟨gk,ok,ck,hjv',hjf,hjc⟩:=hAs.jobAt (b:=b) (by have:=(List.getElem?_eq_some_iff.1 HJG.out).1;exact this)
  rw [HJV.out] at hjv'
  cases hjv'
  have hI2:=HI2.out
  rw [HNJ.out] at hI2
  obtain ⟨hAt,hgt⟩:=hAs.setDone HJV.out HJG.out hI2
  rw [← HNJ.out] at hAt
  obtain ⟨wt,hwt⟩:∃ wt,ws.setCell ⟨gj,oj + b * 29 + 26,none⟩ (.bool true)=wt:=⟨_,rfl⟩
  rw [hwt] at hAt hgt
  have hd2:RDid ws wt h F F:=RDid.of_own hgt (fun i e=> .inr (.inr (.inr (by cases e;rw [HJV.out];rfl))))
  have HD:=qh (((RDid.of_grown h F hgd).trans hd1).trans hd2)
  have hxb:=HD.out.heap HBX.out (fun e=>by have:=HOL.out _ e;omega)
  have x1:wt.cell? ⟨w.heap.size,1,none⟩=some (.int .i64 n.f):=(cell_of_row _ _ 1 _ _ _ hxb).trans rfl
  have HX1:=qh x1
  have HLT:Hid (w.heap.size < wt.heap.size):=qh (lt_of hxb)
  have p10:ws.cell? ⟨h,10,none⟩=some (.slice (some ⟨gj,oj,none⟩) qj cj):=by rw [hAs.parts.2.2.1,HJV.out,HQJ.out]
  have j26:(ws.cell? ⟨gj,oj + b * 29 + 26,none⟩).isSome=true:=by
   have hl:26 < (jt (jbOf { H with en:=H.en.set b ⟨ro,rs⟩ } b)).length:=by rw [jt_len];omega
   rw [hjc 26 _ (List.getElem?_eq_getElem hl)];rfl
  obtain ⟨v26,j26'⟩:=Option.isSome_iff_exists.1 j26
  have jf:=hjf (oj + b * 29 + 26)
  have p8:=hAt.parts.1
  have HAT:=qh hAt
  have HBK:=qh (pp.rblock_any F.mb F.mv H.mm (b:Int) wt hAt.mem)
  rw [(getB_row HBM.out).1,(getB_row HBM.out).2] at HBK
  obtain ⟨rw0,hrw⟩:∃ r,r=rowOf H b:=⟨_,rfl⟩
  have HRL0:=HRL
  rw [← hrw] at HBK HRL0
  have HRW0:=qh hrw
  clear hrw hAd hgs hcell hf hws hd1 hn7 hAs hAt hgt hd2 hxb hjc hjf j26
  refine rd 7 rfl fun K hK=>?_
  go_simp
  refine hK.out _ _ HK1.out (fun hHeld=>?_)
  clear hK K
  try simp only [lay]
  refine wpAnyH_done (by kernel_rfl) ?_ _
  clear hHeld hws' c0 c1 f0 f1
  have hrs:(pp.row rw0).size=16:=by rw [pp.row_size];exact HRL0.out
  have hfd:=fold_data n.f b rt rw0 HRL0.out
  have hn1:=tt.na_size (dataN n.f b rt rw0)
  have hn2:=tt.build_na (dataN n.f b rt rw0)
  go_wp2_with (first
   | (go_at_call 20;((with_reducible refine HBK.out.mono ?_);rintro e w4 ⟨rfl,hg4⟩;have hx4:=hg4.cell HX1.out (by simp);have hl4:w.heap.size < w4.heap.size:=Nat.lt_of_lt_of_le HLT.out hg4.size;have hl5:¬ w.heap.size=w4.heap.size:=Nat.ne_of_lt hl4;have HG4:=qh hg4;clear hg4))
   | ((with_reducible refine pp.store_new' rw0 _ _ ?_ ?_ HRL0.out ?_);(rfl);(rfl))
   | ((with_reducible refine pp.load_any rw0 _ w4.heap.size ?_ (heap_alloc_new _ _) HRL0.out ?_);(rfl)))
  have hgf:wt.grownBy ((w4.alloc (.cells (pp.row rw0) 43)).alloc (.cells (na (dataN n.f b rt rw0)) 45)) none:=grown_alloc (grown_alloc HG4.out _) _
  go_ret
  refine ⟨_,rfl,HAT.out.grown hgf,?_,((RDid.of_grown h F HG.out).trans HD.out).trans (RDid.of_grown h F hgf),fun k hk=>?_⟩
  ·rw [← HRW0.out]
   exact nsl_one (heap_new2 _ _ _ _)
  ·have h1:=HLT.out
   have h2:=HG4.out.size
   simp [Value.ownBlock] at hk
   omega
 ·skip
  go_simp
  refine hK.out _ _ (grown_alloc HD0.out _) (fun hHeld=>?_)
  clear hK K
  try simp only [lay]
  refine rd 11 rfl fun K hK=>?_
  go_simp
  (with_reducible refine (HQ.out _).mono ?_);rintro e wg ⟨rfl,hg5⟩;have HGG:=qh (grown_trans hHeld hg5);have HZ7:=qh ((hg5.block wd.heap.size (by simp) (by simp)).trans (heap_alloc_new _ _))
  go_wp2_with fail
  refine hK.out _ _ HGG.out (fun hHeld=>?_)
  clear hK K
  try simp only [lay]
  refine tl 12 ?_ rfl ?_ ?_ (tl 13 ?_ rfl ?_ ?_ (tl 14 ?_ rfl ?_ ?_ (tl 15 ?_ rfl ?_ ?_ ?_)))
  iterate 4 (rotate_left;(next=>(try simp only [lay]);((intro w0 hSw;go_simp);try (with_reducible rfl)));next=>rfl)
  try simp only [lay]
  have z0:=cr HZ7.out 0 rfl
  have z1:=cr HZ7.out 1 rfl
  have zf0:wg.frozen? ⟨wd.heap.size,0,none⟩=false:=by simp [World.frozen?,HZ7.out]
  have zf1:wg.frozen? ⟨wd.heap.size,1,none⟩=false:=by simp [World.frozen?,HZ7.out]
  refine rd 17 rfl fun K hK=>?_
  go_simp
  refine hK.out _ _ (grown_put HGG.out HD0.out.size) (fun hHeld=>?_)
  clear hK K
  try simp only [lay]
  refine tl 18 ?_ rfl ?_ ?_ (tl 19 ?_ rfl ?_ ?_ ?_)
  iterate 2 (rotate_left;(next=>(try simp only [lay]);((intro w0 hSw;go_simp);try (with_reducible rfl)));next=>rfl)
  try simp only [lay]
  refine wpAnyH_done (by kernel_rfl) ?_ _
  clear hHeld z0 z1 zf0 zf1
  go_wp2_with fail
  obtain ⟨wX,hX⟩:∃ wX,(wg.setCell ⟨wd.heap.size,0,none⟩ (.int .i64 ro)).setCell ⟨wd.heap.size,1,none⟩ (.int .u32 (rs:Int))=wX:=⟨_,rfl⟩
  have hgd:wb.grownBy wX.drew none:=by rw [← hX];exact tt.grown_drew (grown_put HGG.out HD0.out.size)
  have h7:wX.drew.heap[wd.heap.size]?=some (.cells #[.int .i64 ro,.int .u32 (rs:Int)] 58 (0,0)):=by rw [← hX];exact put_two HZ7.out _ _
  have HW7:Hid (wb.heap.size ≤ wd.heap.size):=qh HD0.out.size
  rw [hX]
  obtain ⟨B7,hB⟩:∃ B,wd.heap.size=B:=⟨_,rfl⟩
  rw [hB] at h7 HW7 ⊢
  clear hB hX
  have HKF:Hid (∀ w':World,(w'.heap[h]?=some (.cells (F.cells c) 55 (0,0))∧w'.heap[B7]?=some (.cells #[.int .i64 ro,.int .u32 (rs:Int)] 58 (0,0)))→w'.cell? ⟨h,9,none⟩=some (.slice (some ⟨g,off,none⟩) q cap)∧w'.cell? ⟨B7,0,none⟩=some (.int .i64 ro)∧w'.cell? ⟨B7,1,none⟩=some (.int .u32 (rs:Int))):=qh fun w' ⟨e1,e2⟩=>⟨by have h9:w'.cell? ⟨h,9,none⟩=some F.ev:=cr e1 9 rfl;rw [h9,HEV.out,← HQL.out],cr e2 0 rfl,cr e2 1 rfl⟩
  refine wp_region_held_drew (S:=fun w'=>w'.heap[h]?=some (.cells (F.cells c) 55 (0,0))∧w'.heap[B7]?=some (.cells #[.int .i64 ro,.int .u32 (rs:Int)] 58 (0,0))) (by kernel_rfl) ⟨(HA.out _ hgd).blk,h7⟩ (fun hHeld=>?_)
  generalize wX.drew=wd2 at hgd h7 hHeld ⊢
  refine tl 0 ?_ rfl ?_ ?_ (tl 1 ?_ rfl ?_ ?_ (tl 2 ?_ rfl ?_ ?_ (tl 3 ?_ rfl ?_ ?_ (tl 4 ?_ rfl ?_ ?_ (tl 5 ?_ rfl ?_ ?_ (tl 6 ?_ rfl ?_ ?_ ?_))))))
  iterate 7 (rotate_left;(next=>(try simp only [lay]);((intro w0 hSw;obtain ⟨hs0,hs1,hs2⟩:=HKF.out w0 hSw;go_simp);try (with_reducible rfl)));next=>rfl)
  try simp only [lay]
  have hAd:=HA.out _ hgd
  obtain ⟨hAs,hgs⟩:=hAd.setEnt HEV.out HBL.out ⟨ro,rs⟩ HIE.out
  obtain ⟨g',off',cap',hev',hf,hcell⟩:=hAd.entAt HBL.out
  rw [HEV.out] at hev'
  cases hev'
  have c0:=hcell 0 _ rfl
  have c1:=hcell 1 _ rfl
  rw [Nat.add_zero] at c0
  have f0:=hf (off + b * 2)
  have f1:=hf (off + b * 2 + 1)
  obtain ⟨ws,hws⟩:∃ ws,wd2.setCells g (off + b * 2) (et ⟨ro,rs⟩)=ws:=⟨_,rfl⟩
  have hws':(wd2.setCell ⟨g,off + b * 2,none⟩ (.int .i64 ro)).setCell ⟨g,off + b * 2 + 1,none⟩ (.int .u32 (rs:Int))=ws:=hws
  rw [hws] at hAs hgs
  have hd1:RDid wd2 ws h F F:=RDid.of_own hgs (fun i e=> .inr (.inr (.inl (by cases e;rw [HEV.out];rfl))))
  have hn7:¬ F.own h B7:=fun e=>by have:=HOL.out _ e;have:=HW7.out;have:=HG.out.size;omega
  have HK1:Hid (ws.heap[h]?=some (.cells (F.cells c) 55 (0,0))∧ws.heap[B7]?=some (.cells #[.int .i64 ro,.int .u32 (rs:Int)] 58 (0,0))):=qh ⟨hAs.blk,hd1.heap h7 hn7⟩
  obtain ⟨gk,ok,ck,hjv',hjf,hjc⟩:=hAs.jobAt (b:=b) (by have:=(List.getElem?_eq_some_iff.1 HJG.out).1;exact this)
  rw [HJV.out] at hjv'
  cases hjv'
  have hI2:=HI2.out
  rw [HNJ.out] at hI2
  obtain ⟨hAt,hgt⟩:=hAs.setDone HJV.out HJG.out hI2
  rw [← HNJ.out] at hAt
  obtain ⟨wt,hwt⟩:∃ wt,ws.setCell ⟨gj,oj + b * 29 + 26,none⟩ (.bool true)=wt:=⟨_,rfl⟩
  rw [hwt] at hAt hgt
  have hd2:RDid ws wt h F F:=RDid.of_own hgt (fun i e=> .inr (.inr (.inr (by cases e;rw [HJV.out];rfl))))
  have HD:=qh (((RDid.of_grown h F hgd).trans hd1).trans hd2)
  have hxb:=HD.out.heap HBX.out (fun e=>by have:=HOL.out _ e;omega)
  have x1:wt.cell? ⟨w.heap.size,1,none⟩=some (.int .i64 n.f):=(cell_of_row _ _ 1 _ _ _ hxb).trans rfl
  have HX1:=qh x1
  have HLT:Hid (w.heap.size < wt.heap.size):=qh (lt_of hxb)
  have p10:ws.cell? ⟨h,10,none⟩=some (.slice (some ⟨gj,oj,none⟩) qj cj):=by rw [hAs.parts.2.2.1,HJV.out,HQJ.out]
  have j26:(ws.cell? ⟨gj,oj + b * 29 + 26,none⟩).isSome=true:=by
   have hl:26 < (jt (jbOf { H with en:=H.en.set b ⟨ro,rs⟩ } b)).length:=by rw [jt_len];omega
   rw [hjc 26 _ (List.getElem?_eq_getElem hl)];rfl
  obtain ⟨v26,j26'⟩:=Option.isSome_iff_exists.1 j26
  have jf:=hjf (oj + b * 29 + 26)
  have p8:=hAt.parts.1
  have HAT:=qh hAt
  have HBK:=qh (pp.rblock_any F.mb F.mv H.mm (b:Int) wt hAt.mem)
  rw [(getB_row HBM.out).1,(getB_row HBM.out).2] at HBK
  obtain ⟨rw0,hrw⟩:∃ r,r=rowOf H b:=⟨_,rfl⟩
  have HRL0:=HRL
  rw [← hrw] at HBK HRL0
  have HRW0:=qh hrw
  clear hrw hAd hgs hcell hf hws hd1 hn7 hAs hAt hgt hd2 hxb hjc hjf j26
  refine rd 7 rfl fun K hK=>?_
  go_simp
  refine hK.out _ _ HK1.out (fun hHeld=>?_)
  clear hK K
  try simp only [lay]
  refine wpAnyH_done (by kernel_rfl) ?_ _
  clear hHeld hws' c0 c1 f0 f1
  have hrs:(pp.row rw0).size=16:=by rw [pp.row_size];exact HRL0.out
  have hfd:=fold_data n.f b rt rw0 HRL0.out
  have hn1:=tt.na_size (dataN n.f b rt rw0)
  have hn2:=tt.build_na (dataN n.f b rt rw0)
  go_wp2_with (first
   | (go_at_call 20;((with_reducible refine HBK.out.mono ?_);rintro e w4 ⟨rfl,hg4⟩;have hx4:=hg4.cell HX1.out (by simp);have hl4:w.heap.size < w4.heap.size:=Nat.lt_of_lt_of_le HLT.out hg4.size;have hl5:¬ w.heap.size=w4.heap.size:=Nat.ne_of_lt hl4;have HG4:=qh hg4;clear hg4))
   | ((with_reducible refine pp.store_new' rw0 _ _ ?_ ?_ HRL0.out ?_);(rfl);(rfl))
   | ((with_reducible refine pp.load_any rw0 _ w4.heap.size ?_ (heap_alloc_new _ _) HRL0.out ?_);(rfl)))
  have hgf:wt.grownBy ((w4.alloc (.cells (pp.row rw0) 43)).alloc (.cells (na (dataN n.f b rt rw0)) 45)) none:=grown_alloc (grown_alloc HG4.out _) _
  go_ret
  refine ⟨_,rfl,HAT.out.grown hgf,?_,((RDid.of_grown h F HG.out).trans HD.out).trans (RDid.of_grown h F hgf),fun k hk=>?_⟩
  ·rw [← HRW0.out]
   exact nsl_one (heap_new2 _ _ _ _)
  ·have h1:=HLT.out
   have h2:=HG4.out.size
   simp [Value.ownBlock] at hk
   omega
end
end Go.Proofs.YtenhdijbcdkfbaaGreatDoor.hh
