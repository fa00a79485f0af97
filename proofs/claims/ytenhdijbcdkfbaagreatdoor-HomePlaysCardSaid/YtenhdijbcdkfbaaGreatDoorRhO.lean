/-
 What Take of the document's home makes of it where an answer with data is heard: contract. No condition but what it names.
-/
import Derived.Test.YtenhdijbcdkfbaaGreatDoorTl
import Derived.Test.YtenhdijbcdkfbaaGreatDoorRhM
namespace Go.Proofs.YtenhdijbcdkfbaaGreatDoor.hh
set_option linter.unusedVariables false
set_option linter.unusedSimpArgs false
set_option maxRecDepth 1000000
set_option maxHeartbeats 16000000
open Go Go.ChangeShapes Go.WideShapes Go.ChangeAt Go.RowKit
open Go.Proofs.YtenhdijbcdkfbaaGreatDoor.tt (Nt Cfg fits net bare zd usd uses coreOf ok_ends MapAt mput mdel ik NSl flat na nt zn grown_alloc grown_refl grown_trans tyne lt_of)
open Go.Proofs.YtenhdijbcdkfbaaGreatDoor.en (En gets back asked asks free ask_parts may_parts ea)
open Go.Proofs.YtenhdijbcdkfbaaGreatDoor.mm (wi wo ones wo_lt)
section
variable {w:World} {h:Nat} {c:Cfg} {F:Fr} {H:Hm}
theorem rtake_heard9d (A:RefAt w h c F H) (n:Nt) (hw:Word n) (hr:ready c H n=0) (hk:n.k=9) (hh:n.h=true) (j:Jb) (hj:jbOf H n.b.toNat=some j) (hl:H.wt.length ≤ 65536):Calls Tryz.prog 14 #[.pointer (some ⟨h,0,none⟩),.agg (na n)] w fun e w'=>∃ F' v,e = .returned (.tuple #[v,.int .i64 (take c H n).2.2])∧RefAt w' h c F' (take c H n).1∧NSl w' v (take c H n).2.1∧RDid w w' h F F'∧∀ k,v.ownBlock=some k→w.heap.size ≤ k∧¬ F'.own h k∧F'.wv.ownBlock ≠ some k:=by
 obtain ⟨wb,hwb⟩:∃ wb,w.alloc (.cells (na n) 45)=wb:=⟨_,rfl⟩
 have hgb:w.grownBy wb none:=by rw [← hwb];exact grown_alloc (grown_refl _ _) _
 have hbx:wb.heap[w.heap.size]?=some (.cells (na n) 45 (0,0)):=by rw [← hwb];exact heap_alloc_new _ _
 have HAB:=qh (A.grown hgb)
 have HRY:=qh (rready_any HAB.out n)
 have HX:Hid (∀ w',wb.grownBy w' none→w'.heap[w.heap.size]?=some (.cells (na n) 45 (0,0))):=qh fun w' h'=>(h'.block _ (lt_of hbx) (by simp)).trans hbx
 have HR:Hid (∀ w',wb.grownBy w' none→w'.rangeAt w.heap.size 0 (nt n)):=qh fun w' h'=>tt.range_of (HX.out w' h')
 have HG:=qh hgb
 obtain ⟨hf1,hf2⟩:=ready_fits hr
 rw [hr] at HRY
 obtain ⟨b,hbn⟩:∃ b:Nat,n.b=(b:Int):=⟨n.b.toNat,by have:=(blk_lt hf1).1;omega⟩
 have hb:b < c.data.toNat:=by have:=(blk_lt hf1).2;omega
 have HBT:n.b.toNat=b:=by omega
 have HTK:Hid (take c H n=((heard H n).1,(heard H n).2,0)):=qh (take_heard hr (by omega) hj)
 have HNB:=qh hbn
 have hnm:=A.inv.noted n hf1 j hj hw
 rw [HBT] at hnm hj
 have hbj:b < H.jb.length:=by rw [A.inv.lj];exact hb
 have HWY:=qh (rheard H n b HBT j hj)
 have hjg:=jbOf_get hj
 have hjw:=(A.inv.jobs b j hjg).w
 have HBD:=qh hb
 have HWO:Hid (∀ w',_):=qh fun w'=>mm.rwout_any j.w n.f w' hjw
 have HNT:=qh (fun w'=>tt.rnet_any n.k w')
 have en0:(net n.k == 0)=false:=by
  have:¬ net n.k=0:=fun e=>by have:=(net_asks hf1.1.1).1 e;omega
  simpa using this
 have e11:(n.k == 11)=false:=by rw [hk];rfl
 have e10:(n.k == 10)=false:=by rw [hk];rfl
 obtain ⟨gj,oj,cj,hjv,_,_⟩:=A.jobAt hbj
 have HJR:Hid (∀ w',wb.grownBy w' none→w'.cell? ⟨h,10,none⟩=some (.slice (some ⟨gj,oj,none⟩) H.jb.length cj)∧w'.rangeAt gj (oj + b * 29) (jt (some j))):=qh fun w' h'=>by
  have hA:=HAB.out.grown h'
  obtain ⟨g',o',c',e',hr'⟩:=hA.jobRange hbj
  rw [hjv] at e';cases e'
  exact ⟨by rw [hA.parts.2.2.1,hjv],by rw [← hj];exact hr'⟩
 obtain ⟨q,hq⟩:∃ q,q=H.jb.length:=⟨_,rfl⟩
 have hlt:(b:Int) < (q:Int):=by omega
 have hle:(0:Int) ≤ (b:Int):=by omega
 have HQ:=qh hq
 have HJV:=qh hjv
 have HBJ:=qh hbj
 have HLL:Hid (H.wt.length ≤ 65536):=qh hl
 rw [← hq] at HJR
 rw [HTK.out]
 obtain ⟨nn,hnn⟩:∃ x,x=net n.k:=⟨_,rfl⟩
 rw [← hnn] at HNT en0
 have HIM:Hid (Inv c { H with mm:=H.mm.set b n.d }):=qh (by have:=A.inv.mem n.h b n.d n.hd;rw [hh] at this;exact this)
 have HBM:Hid (b < H.mm.length):=qh (by rw [A.inv.lm];have h1:=A.inv.may.2;have h2:=data_le A.inv.may;omega)
 rw [hh] at hnm HWY
 have HIJ:=qh hnm
 have hJ:noted j n={ j with w:=wo j.w n.f }:=by unfold noted;rw [hk];simp
 rw [hJ] at HIJ HWY
 have HHH:=qh hh
 have HOL:Hid (∀ i,F.own h i→i < w.heap.size):=qh fun i hi=>A.own_lt hi
 clear A hbx hgb hr hf1 hf2 hk hbn HBT hb hj hnm hbj hjg hjw hjv hq hnn hJ hw hl
 go_enter Tryz.func14,Tryz.ntmps14
 go_wp2_with (first
  | ((with_reducible refine tt.load_nt n _ w.heap.size ?_ (HR.out _ (by first | exact grown_refl _ _ | exact HG1.out)) ?_);(rfl))
  | (go_at_call 11;((with_reducible refine HRY.out.mono ?_);rintro e w1 ⟨rfl,hg1⟩;have HG1:=qh hg1;have hr1:=HR.out w1 hg1;have n0:=tt.cell_at hr1 0 _ rfl;have n3:=tt.cell_at hr1 3 _ rfl;rw [HNB.out] at n3;have j1:=(HJR.out w1 hg1).1;have HA1:=qh (HAB.out.grown hg1);clear hg1 hr1))
  | (go_at_call 38;((with_reducible refine (HNT.out _).mono ?_);rintro e w2 ⟨rfl,rfl⟩))
  | ((with_reducible refine load_jt (some j) _ gj (oj + b * 29) ?_ (HJR.out _ HG1.out).2 ?_);(rfl))
  | ((with_reducible refine store_jnew (some j) _ _ _ ?_ ?_ ?_ ?_);(rfl);(rfl);(rfl);(obtain ⟨BJ,hBJ⟩:∃ B,w2.heap.size=B:=⟨_,rfl⟩;obtain ⟨wJ,hwJ⟩:∃ x,w2.alloc (.cells (ja (some j)) 63)=x:=⟨_,rfl⟩;have HGJ:Hid (wb.grownBy wJ none):=qh (by rw [← hwJ];exact grown_alloc HG1.out _);have HBJ0:Hid (wJ.heap[BJ]?=some (.cells (ja (some j)) 63 (0,0))):=qh (by rw [← hwJ,← hBJ];exact heap_alloc_new _ _);have HBJL:Hid (wb.heap.size ≤ BJ):=qh (by rw [← hBJ];exact HG1.out.size);have hrJ:=HR.out wJ HGJ.out;have m0:=tt.cell_at hrJ 0 _ rfl;have m1:=tt.cell_at hrJ 1 _ rfl;have m4:=tt.cell_at hrJ 4 _ rfl;have m6:=tt.cell_at hrJ 6 _ rfl;obtain ⟨q2,q25,q26,q27,q28⟩:=ja_at HBJ0.out;have fJ:∀ i,wJ.frozen? ⟨BJ,i,none⟩=false:=(fun i=>by simp [World.frozen?,HBJ0.out]);rw [hwJ,hBJ];clear hwJ hBJ hrJ n0 n3 j1)))
 clear m0 m1 m4 m6 q2 q25 q26 q27 q28 fJ
 obtain ⟨tB,mB,HTB,haggB,hsizeB,hldB⟩:=nameB
 have HAW:=qh (HAB.out.grown (grown_trans HGJ.out (tt.grown_drew (grown_refl wJ none))))
 have HXW:Hid (wJ.drew.heap[w.heap.size]?=some (.cells (na n) 45 (0,0))):=qh (HX.out wJ HGJ.out)
 have HBW:Hid (wJ.drew.heap[BJ]?=some (.cells (ja (some j)) 63 (0,0))):=qh HBJ0.out
 have HDW:Hid (RDid w wJ.drew h F F):=qh (RDid.of_grown h F (tt.grown_drew (grown_trans HG.out HGJ.out)))
 have HKM:Hid (∀ w':World,(w'.heap[h]?=some (.cells (F.cells c) 55 (0,0))∧w'.heap[w.heap.size]?=some (.cells (na n) 45 (0,0))∧w'.heap[BJ]?=some (.cells (ja (some j)) 63 (0,0)))→w'.cell? ⟨h,8,none⟩=some (.pointer (some ⟨F.mb,0,none⟩))∧(loadCellsFrom ⟨w.heap.size,8,none⟩ 0 mB #[]).run Tryz.prog w' = .ok (pp.row n.d) w'):=qh fun w' ⟨e1,e2,_⟩=>⟨cr e1 8 rfl,hldB _ n w' (tt.range_of e2)⟩
 clear hldB
 rw [HTB.out]
 refine wp_region_held_drew (S:=fun w'=>w'.heap[h]?=some (.cells (F.cells c) 55 (0,0))∧w'.heap[w.heap.size]?=some (.cells (na n) 45 (0,0))∧w'.heap[BJ]?=some (.cells (ja (some j)) 63 (0,0))) (by kernel_rfl) ⟨HAW.out.blk,HXW.out,HBW.out⟩ (fun hHeld=>?_)
 generalize wJ.drew=wv at hHeld HAW HXW HBW HDW ⊢
 refine tl 0 ?_ rfl ?_ ?_ (tl 1 ?_ rfl ?_ ?_ (tl 2 ?_ rfl ?_ ?_ (tl 3 ?_ rfl ?_ ?_ (tl 4 ?_ rfl ?_ ?_ (tl 5 ?_ rfl ?_ ?_ (tl 6 ?_ rfl ?_ ?_ ?_))))))
 iterate 7 (rotate_left;(next=>(try simp only [lay]);((intro w0 hSw;obtain ⟨hs0,hs1⟩:=HKM.out w0 hSw;go_simp);try (with_reducible rfl)));next=>rfl)
 try simp only [lay]
 have HSB:=qh (pp.rset_block_any F.mb F.mv H.mm (b:Int) n.d n.hd wv HAW.out.mem)
 rw [(getB_row HBM.out).2,setB_in HBM.out] at HSB
 refine rd 7 rfl fun K hK=>?_
 go_simp
 (with_reducible refine HSB.out.mono ?_);rintro e wy ⟨rfl,hM,hgM⟩
 have hAY:=HAW.out.setMem hM hgM HIM.out
 have hne:∀ {i:Nat} {cs:Array Value} {t:TypeId} {fr:Nat × Nat},wv.heap[i]?=some (.cells cs t fr)→t ≠ 41→some i ≠ F.mv.ownBlock:=fun hi ht e=>by
  obtain ⟨_,hb⟩:=HAW.out.mem.bl _ e.symm;exact tyne hi hb ht rfl
 have HXY:=qh ((hgM.block _ (lt_of HXW.out) (hne HXW.out (by decide))).trans HXW.out)
 have HBY:=qh ((hgM.block _ (lt_of HBW.out) (hne HBW.out (by decide))).trans HBW.out)
 have HAY:=qh hAY
 have HDY:=qh (HDW.out.trans (RDid.of_own hgM (fun i e=> .inr (.inl e))))
 clear hM hgM hAY hne
 go_wp2_with fail
 refine hK.out _ _ ⟨HAY.out.blk,HXY.out,HBY.out⟩ (fun hHeld=>?_)
 clear hK K
 try simp only [lay]
 refine wpAnyH_done (by kernel_rfl) ?_ _
 clear hHeld
 have hrY:=tt.range_of HXY.out
 have m0:=tt.cell_at hrY 0 _ rfl
 have m1:=tt.cell_at hrY 1 _ rfl
 obtain ⟨q2,q25,q26,q27,q28⟩:=ja_at HBY.out
 have fJ:∀ i,wy.frozen? ⟨BJ,i,none⟩=false:=fun i=>by simp [World.frozen?,HBY.out]
 clear hrY
 go_wp2_with (first
  | (go_at_call 51;((with_reducible refine (HWO.out _).mono ?_);rintro e w4 ⟨rfl,rfl⟩)))
 have HYW:Hid (RefAt wy h c F { H with mm:=H.mm.set b n.d }∧RDid w wy h F F∧wy.heap[w.heap.size]?=some (.cells (na n) 45 (0,0))∧wy.heap[BJ]?=some (.cells (ja (some j)) 63 (0,0))):=qh ⟨HAY.out,HDY.out,HXY.out,HBY.out⟩
 obtain ⟨wK,hwK⟩:∃ x,wy.setCell ⟨BJ,25,none⟩ (.int .u32 ((wo j.w n.f:Nat):Int))=x:=⟨_,rfl⟩
 have hst:∀ i,i ≠ BJ→wK.heap[i]?=wy.heap[i]?:=fun i hi=>by rw [← hwK];exact Below.heap_setCell _ _ _ i hi
 have HBK:Hid (wK.heap[BJ]?=some (.cells (ja (some { j with w:=wo j.w n.f })) 63 (0,0))):=qh (by rw [← hwK,setCell_heap HYW.out.2.2.2 25 _,(cellset j).1])
 have HSZ:Hid (w.heap.size ≤ BJ∧w.heap.size ≠ BJ):=qh ⟨Nat.le_trans HG.out.size HBJL.out,fun e=>by have h1:=lt_of (HX.out wb (grown_refl _ _));have h2:=HBJL.out;omega⟩
 have HAK:Hid (RefAt wK h c F { H with mm:=H.mm.set b n.d }):=qh (HYW.out.1.keep fun i hi ho=>hst i (fun e=>by
  rcases ho with ho | ho | ho
  ·have h1:=HOL.out _ ho;have h2:=HSZ.out.1;omega
  ·have hb:=HYW.out.1.mem.blk
   rw [← ho,e] at hb
   exact tyne HYW.out.2.2.2 hb (by decide) rfl
  ·obtain ⟨cur,hc⟩:=HYW.out.1.wt.type i ho
   rw [e] at hc
   exact tyne HYW.out.2.2.2 hc (by decide) rfl))
 have HDK:Hid (RDid w wK h F F):=qh (HYW.out.2.1.thenNew (o:=some BJ) (by rw [← hwK];exact tt.grown_setCells wy BJ 25 [(.int .u32 ((wo j.w n.f:Nat):Int))]) (fun k e=>by cases e;exact HSZ.out.1))
 have HXK:=qh ((hst w.heap.size HSZ.out.2).trans HYW.out.2.2.1)
 rw [hwK]
 clear hwK hst m0 m1 q2 q25 q26 q27 q28 fJ
 obtain ⟨mm',hmm'⟩:∃ x,x=H.mm.set b n.d:=⟨_,rfl⟩
 have HIJ:Hid (Inv c { H with mm:=H.mm.set b n.d,jb:=H.jb.set b (some { j with w:=wo j.w n.f }) }):=qh HIJ.out
 simp only [if_true] at HWY
 rw [← hmm'] at HIJ HWY HAK
 obtain ⟨J,hJ⟩:∃ x,x=({ j with w:=wo j.w n.f }:Jb):=⟨_,rfl⟩
 have HJA:Hid (J.a=j.a∧J.w=wo j.w n.f∧J.r=j.r∧J.l=j.l):=qh (by rw [hJ];exact ⟨rfl,rfl,rfl,rfl⟩)
 rw [← hJ] at HIJ HWY HBK
 clear hJ hmm'
 obtain ⟨tj,mj,HTJ,haggj,hsizej,hldj⟩:=namedJ
 have HJ2:Hid (∀ w':World,(w'.heap[h]?=some (.cells (F.cells c) 55 (0,0))∧w'.heap[BJ]?=some (.cells (ja (some J)) 63 (0,0)))→w'.cell? ⟨h,10,none⟩=some (.slice (some ⟨gj,oj,none⟩) q cj)∧(loadCellsFrom ⟨BJ,0,none⟩ 0 mj #[]).run Tryz.prog w' = .ok (ja (some J)) w'):=qh fun w' ⟨e1,e2⟩=>⟨by have h10:w'.cell? ⟨h,10,none⟩=some F.jv:=cr e1 10 rfl;rw [h10,HJV.out,← HQ.out],hldj _ _ _ w' (fun i v hv=>by rw [Nat.zero_add];exact (cell_of_row _ _ i _ _ _ e2).trans (by simpa [ja] using hv))⟩
 clear hldj
 rw [HTJ.out]
 refine wp_region_held_drew (S:=fun w'=>w'.heap[h]?=some (.cells (F.cells c) 55 (0,0))∧w'.heap[BJ]?=some (.cells (ja (some J)) 63 (0,0))) (by kernel_rfl) ⟨(HAK.out.grown (tt.grown_drew (grown_refl wK none))).blk,HBK.out⟩ (fun hHeld=>?_)
 have HAD:=qh (HAK.out.grown (tt.grown_drew (grown_refl wK none)))
 have HDD:=qh (HDK.out.trans (RDid.of_grown h F (tt.grown_drew (grown_refl wK none))))
 have HBD2:Hid (wK.drew.heap[BJ]?=some (.cells (ja (some J)) 63 (0,0))):=qh HBK.out
 have HXD:Hid (wK.drew.heap[w.heap.size]?=some (.cells (na n) 45 (0,0))):=qh HXK.out
 generalize wK.drew=wd at hHeld HAD HDD HBD2 HXD ⊢
 refine tl 0 ?_ rfl ?_ ?_ (tl 1 ?_ rfl ?_ ?_ (tl 2 ?_ rfl ?_ ?_ (tl 3 ?_ rfl ?_ ?_ (tl 4 ?_ rfl ?_ ?_ (tl 5 ?_ rfl ?_ ?_ (tl 6 ?_ rfl ?_ ?_ ?_))))))
 iterate 7 (rotate_left;(next=>(try simp only [lay]);((intro w0 hSw;obtain ⟨hs0,hs1⟩:=HJ2.out w0 hSw;go_simp);try (with_reducible rfl)));next=>rfl)
 try simp only [lay]
 obtain ⟨gq,oq,cq,hjq,hjf,hjc⟩:=HAD.out.jobAt (b:=b) HBJ.out
 rw [HJV.out] at hjq
 cases hjq
 obtain ⟨hAs,hgs⟩:=HAD.out.setJob HJV.out (b:=b) HBJ.out (some J) HIJ.out
 obtain ⟨ws,hws⟩:∃ ws,wd.setCells gj (oj + b * 29) (jt (some J))=ws:=⟨_,rfl⟩
 rw [hws] at hAs hgs
 have hd1:RDid wd ws h F F:=RDid.of_own hgs (fun i e=> .inr (.inr (.inr (by cases e;rw [HJV.out];rfl))))
 have HBS:=qh (hd1.heap HBD2.out (fun e=>by have:=HAB.out.own_lt e;have:=HBJL.out;omega))
 have HXS:=qh (hd1.heap HXD.out (fun e=>by have:=HOL.out _ e;omega))
 have HAS:=qh hAs
 have HDS:=qh (HDD.out.trans hd1)
 refine rd 7 rfl fun K hK=>?_
 refine jfire rfl 98 97 rfl gj (oj + b * 29) (some J) rfl rfl (there_jt hjf hjc) ?_
 rw [hws]
 refine hK.out _ _ ⟨HAS.out.blk,HBS.out⟩ (fun hHeld=>?_)
 clear hK K
 try simp only [lay]
 refine wpAnyH_done (by kernel_rfl) ?_ _
 clear hHeld hws hd1 hgs hAs hjf hjc HJ2
 obtain ⟨q2,q25,q26,q27,q28⟩:=ja_at HBS.out
 by_cases hm0:J.w=0
 ·have em:(((J.w:Nat):Int) != 0)=false:=by rw [hm0];rfl
  have hmw:wo j.w n.f=0:=by rw [← HJA.out.2.1];exact hm0
  have hbj2:b < H.jb.length:=HBJ.out
  have HJO:Hid (jbOf { H with mm:=mm',jb:=H.jb.set b (some J) } b=some J):=qh (get_jbOf (by show (H.jb.set b _)[b]?=_;rw [List.getElem?_set_self hbj2]))
  cases hrr:J.r with
  | false=>
   have HE:=qh (HWY.out.2.2 (by first | exact hmw | exact hm0) (by first | exact hrr | exact trivial | rfl | (rw [← HJA.out.2.2.1];exact hrr)))
   have HAN:=qh (ranswer_any HAS.out b HBD.out J HJO.out)
   have HWL:Hid (∀ k,F.wv.ownBlock=some k→k < ws.heap.size):=qh fun k e=>HAS.out.wt.lt k e
   have HSO:Hid (∀ i,F.own h i→i < ws.heap.size):=qh fun i hi=>HAS.out.own_lt hi
   rw [hrr] at q27
   clear hm0 hmw hbj2 hrr
   go_wp2_with (go_at_call 52;((with_reducible refine HAN.out.mono ?_);rintro e w6 ⟨v6,rfl,hA6,hS6,hD6,hf6⟩;have HA6:=qh hA6;have HS6:=qh hS6;have HD6:=qh hD6;have HF6:=qh hf6;clear hA6 hS6 hD6 hf6))
   go_ret2
   rw [HE.out]
   exact ⟨F,_,rfl,HA6.out,HS6.out,HDS.out.trans HD6.out,fun k hk=>⟨Nat.le_trans HDS.out.size (HF6.out k hk),fun e=>by have h1:=HSO.out _ e;have h2:=HF6.out k hk;omega,fun e=>by have h1:=HWL.out k e;have h2:=HF6.out k hk;omega⟩⟩
  | true=>
   have HE:=qh (HWY.out.2.1 (by first | exact hmw | exact hm0) (by first | exact hrr | exact trivial | rfl | (rw [← HJA.out.2.2.1];exact hrr)))
   rw [hrr] at q27
   clear hm0 hmw hbj2 hrr
   obtain ⟨x,hx⟩:∃ x,x=bare 7 (-1) J.a.f (b:Int) J.l 0 false false:=⟨_,rfl⟩
   have hn1:=tt.na_size x
   have hn2:=tt.build_na x
   have hn3:=(tt.bare_na 7 (-1) J.a.f (b:Int) J.l 0 false false).symm
   rw [← hx] at hn3
   have HXX:=qh hx
   clear hx
   obtain ⟨i0,hi,hz0,hz1,hz2⟩:=info_parts tt.infoN
   have HFL:Hid ((fin { H with mm:=mm',jb:=H.jb.set b (some J) } b).2.length ≤ 3000000):=qh (by
    have h1:=run_len b H.wt { H with mm:=mm',jb:=(H.jb.set b (some J)).set b none } []
    have h2:(fin { H with mm:=mm',jb:=H.jb.set b (some J) } b).2.length ≤ 33 * H.wt.length:=h1
    have:=HLL.out
    omega)
   have HEN:Hid (∀ W,RefAt W h c F { H with mm:=mm',jb:=H.jb.set b (some J) }→_):=qh fun W hA=>rend_any hA b HBD.out HLL.out
   go_wp2_with (first
    | (go_at_call 49;((with_reducible refine (HEN.out _ (HAS.out.grown (grown_alloc (grown_refl _ _) _))).mono ?_);rintro e w6 ⟨F6,v6,rfl,hA6,hS6,hD6,hf6⟩;have HA6:=qh hA6;have HS6:=qh hS6;have HD6:=qh hD6;have HF6:=qh hf6;have HX6:Hid (w6.heap[ws.heap.size]?=some (.cells (na x) 45 (0,0))):=qh (hD6.heap (heap_alloc_new _ _) (fun e=>by have:=HAS.out.own_lt e;omega));have HS1:Hid (tt.Sl w6 45 24 (.slice (some ⟨ws.heap.size,0,none⟩) 1 1) 1 (flat nt [x])):=qh (nsl_one HX6.out);have HU6:Hid (¬ F6.own h ws.heap.size∧F6.wv.ownBlock ≠ some ws.heap.size):=qh ⟨fun e=>(by have:=HAS.out.own_lt ((hD6.own _).1 e);omega),fun e=>(by rcases hD6.next with e1 | e1;(rw [e1] at e;have:=HAS.out.wt.lt _ e;omega);(have:=e1 _ e;simp at this;omega))⟩;have HD7:Hid (RDid w w6 h F F6):=qh (HDS.out.trans ((RDid.of_grown h F (grown_alloc (grown_refl _ _) _)).trans hD6));clear hA6 hS6 hD6 hf6))
    | ((with_reducible refine tt.append_sl 24 45 24 i0 (.agg (na zn)) 112 _ _ Tryz.underlying24 hi hz0 hz1 hz2 tt.zn_cells (.slice (some ⟨ws.heap.size,0,none⟩) 1 1) 1 (flat nt [x]) ?_ HS1.out v6 (fin { H with mm:=mm',jb:=H.jb.set b (some J) } b).2.length (flat nt (fin { H with mm:=mm',jb:=H.jb.set b (some J) } b).2) ?_ (HS6.out.src Tryz.underlying24 (tt.nflat_one _)) ?_ ?_ ?_);(rfl);(rfl);(have:=HFL.out;unfold maxLen;omega);(have:=HFL.out;omega);(intro v7 w7 hsl7 hgr7 hnx7;have hs7:NSl w7 v7 (x :: (fin { H with mm:=mm',jb:=H.jb.set b (some J) } b).2):=(by rw [← tt.flat_append] at hsl7;show tt.Sl _ _ 24 v7 _ _;rw [show (x :: (fin { H with mm:=mm',jb:=H.jb.set b (some J) } b).2).length=1 + (fin { H with mm:=mm',jb:=H.jb.set b (some J) } b).2.length by simp;omega];exact hsl7);have HS7:=qh hs7;have HG7:=qh hgr7;have HN7:=qh hnx7;clear hs7 hsl7 hgr7 hnx7)))
   go_ret2
   rw [HE.out]
   refine ⟨F6,v7,rfl,?_,by rw [HNB.out,← HJA.out.1,← HJA.out.2.2.2,← HXX.out];exact HS7.out,HD7.out.thenNew HG7.out (fun k e=>by cases e;exact HDS.out.size),fun k hk=>?_⟩
   ·refine HA6.out.keep fun i hi ho=>HG7.out.block i hi (fun e=>?_)
    obtain rfl:i=ws.heap.size:=Option.some.inj e
    rcases ho with ho | ho | ho
    ·exact HU6.out.1 ho
    ·have hb:=HA6.out.mem.blk
     rw [← ho] at hb
     exact tyne HX6.out hb (by decide) rfl
    ·exact HU6.out.2 ho
   ·rcases HN7.out with e | e
    ·obtain rfl:ws.heap.size=k:=Option.some.inj (e.symm.trans hk)
     exact ⟨HDS.out.size,HU6.out⟩
    ·have h6:=e k hk
     exact ⟨Nat.le_trans HD7.out.size h6,fun ho=>by have:=HA6.out.own_lt ho;omega,fun hw=>by have:=HA6.out.wt.lt k hw;omega⟩
 ·have em:(((J.w:Nat):Int) != 0)=true:=by simp;omega
  have HE:=qh (HWY.out.1 (by rw [← HJA.out.2.1];exact hm0))
  go_wp2_with fail
  go_ret2
  rw [HE.out]
  exact ⟨F,_,rfl,HAS.out,tt.Sl.nil _ _ _,HDS.out,fun k hk=>by simp [Value.ownBlock] at hk⟩
theorem rready_ack {n:Nt} (hr:ready c H n=0) (hk:n.k=9 ∨ n.k=10):∃ j,jbOf H n.b.toNat=some j:=by
 obtain ⟨hf1,hf2⟩:=ready_fits hr
 unfold ready at hr
 rw [if_neg (fun (e:¬ fits c n ∨ n.t ≠ -1)=>e.elim (fun e=>e hf1) (fun e=>e hf2)),if_neg (fun e=>by have:=(net_asks hf1.1.1).1 e;omega)] at hr
 cases hj:jbOf H n.b.toNat with
 | none=>rw [hj] at hr;cases hr
 | some j=>exact ⟨j,rfl⟩
theorem rtake_any (A:RefAt w h c F H) (n:Nt) (hw:Word n) (hl:H.wt.length ≤ 65536):Calls Tryz.prog 14 #[.pointer (some ⟨h,0,none⟩),.agg (na n)] w fun e w'=>∃ F' v,e = .returned (.tuple #[v,.int .i64 (take c H n).2.2])∧RefAt w' h c F' (take c H n).1∧NSl w' v (take c H n).2.1∧RDid w w' h F F'∧∀ k,v.ownBlock=some k→w.heap.size ≤ k∧¬ F'.own h k∧F'.wv.ownBlock ≠ some k:=by
 by_cases hr:ready c H n=0
 ·obtain ⟨hf1,hf2⟩:=ready_fits hr
  obtain ⟨hk,_,_⟩:=to_home hf1 hf2
  by_cases h9:n.k=9
  ·obtain ⟨j,hj⟩:=rready_ack hr (.inl h9)
   cases hh:n.h with
   | true=>exact rtake_heard9d A n hw hr h9 hh j hj hl
   | false=>exact rtake_heard9 A n hw hr h9 hh j hj hl
  ·by_cases h10:n.k=10
   ·obtain ⟨j,hj⟩:=rready_ack hr (.inr h10)
    have hh:n.h=false:=by
     cases h:n.h with
     | false=>rfl
     | true=>
      have h1:=hf1.1.1
      have:=((tt.rule_ok n h1 hf1.1.2.1).1 hf1.1).h369 h
      omega
    cases hjr:j.r with
    | false=>exact rtake_heard10a A n hw hr h10 hh j hj hl hjr
    | true=>
     by_cases hlo:n.st < j.l
     ·exact rtake_heard10b A n hw hr h10 hh j hj hl hjr hlo
     ·exact rtake_heard10c A n hw hr h10 hh j hj hl hjr hlo
   ·by_cases h11:n.k=11
    ·exact rtake_done A n hr h11 hl
    ·cases hj:(jbOf H n.b.toNat).isSome with
     | true=>exact rtake_wait A n hr (by omega) hj hl
     | false=>exact rtake_new A n hr (by omega) hj
 ·exact rtake_bad A n hr
end
end Go.Proofs.YtenhdijbcdkfbaaGreatDoor.hh
