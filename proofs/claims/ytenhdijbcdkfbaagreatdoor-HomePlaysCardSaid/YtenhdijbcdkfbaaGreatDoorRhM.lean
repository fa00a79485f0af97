/-
 What Take of the document's home makes of it where an answer is heard: contract. No condition but what it names.
-/
import Derived.Test.YtenhdijbcdkfbaaGreatDoorTl
import Derived.Test.YtenhdijbcdkfbaaGreatDoorRhL
namespace Go.Proofs.YtenhdijbcdkfbaaGreatDoor.hh
set_option linter.unusedVariables false
set_option linter.unusedSimpArgs false
set_option maxRecDepth 1000000
set_option maxHeartbeats 16000000
open Go Go.ChangeShapes Go.WideShapes Go.ChangeAt Go.RowKit
open Go.Proofs.YtenhdijbcdkfbaaGreatDoor.tt (Nt Cfg fits net bare zd usd uses coreOf ok_ends MapAt mput mdel ik NSl flat na nt zn grown_alloc grown_refl grown_trans tyne lt_of)
open Go.Proofs.YtenhdijbcdkfbaaGreatDoor.en (En gets back asked asks free ask_parts may_parts ea)
open Go.Proofs.YtenhdijbcdkfbaaGreatDoor.mm (wi wo ones wo_lt)
theorem cellset (j:Jb):(∀ m:Nat,(ja (some j)).set! 25 (.int .u32 (m:Int))=ja (some { j with w:=m }))∧(∀ r:Bool,(ja (some j)).set! 27 (.bool r)=ja (some { j with r:=r }))∧(∀ l:Int,(ja (some j)).set! 28 (.int .u64 l)=ja (some { j with l:=l })):=by
 obtain ⟨⟨k,f,t,b,st,s,h,q,d,hd⟩,w,d0,r0,l0⟩:=j
 match d,hd with
 | [d0,d1,d2,d3,d4,d5,d6,d7,d8,d9,d10,d11,d12,d13,d14,d15],_=>
  refine ⟨fun m=>?_,fun r=>?_,fun l=>?_⟩ <;> simp [nt,ja,jt]
theorem RDid.thenNew {w a b:World} {h:Nat} {F F':Fr} (d:RDid w a h F F') {o:Option Nat} (g:a.grownBy b o) (ho:∀ k,o=some k→w.heap.size ≤ k):RDid w b h F F':=
 ⟨g.os.trans d.os,g.tape.trans d.tape,g.output.trans d.output,Nat.le_trans d.size g.size,fun i hi hn=>(g.block i (Nat.lt_of_lt_of_le hi d.size) (fun e=>by have:=ho i e.symm;omega)).trans (d.block i hi hn),d.mb,d.mv,d.ev,d.jv,d.next⟩
theorem rheard (H:Hm) (n:Nt) (b:Nat) (hb:n.b.toNat=b) (j:Jb) (hj:jbOf H b=some j) :
  ((noted j n).w ≠ 0→heard H n=({ H with mm:=if n.h then H.mm.set b n.d else H.mm,jb:=H.jb.set b (some (noted j n)) },[])) ∧
  ((noted j n).w=0→(noted j n).r=true→heard H n=((fin { H with mm:=if n.h then H.mm.set b n.d else H.mm,jb:=H.jb.set b (some (noted j n)) } b).1,bare 7 (-1) (noted j n).a.f n.b (noted j n).l 0 false false :: (fin { H with mm:=if n.h then H.mm.set b n.d else H.mm,jb:=H.jb.set b (some (noted j n)) } b).2)) ∧
  ((noted j n).w=0→(noted j n).r=false→heard H n=answer { H with mm:=if n.h then H.mm.set b n.d else H.mm,jb:=H.jb.set b (some (noted j n)) } b):=by
 subst hb
 unfold heard
 rw [hj]
 dsimp only
 exact ⟨fun h=>if_pos h,fun h hr=>by rw [if_neg (fun e=>e h),if_pos hr];rfl,fun h hr=>by rw [if_neg (fun e=>e h),if_neg (by rw [hr];simp)]⟩
theorem ja_at {w:World} {B:Nat} {j:Jb} (h:w.heap[B]?=some (.cells (ja (some j)) 63 (0,0))):w.cell? ⟨B,2,none⟩=some (.int .i64 j.a.f)∧w.cell? ⟨B,25,none⟩=some (.int .u32 (j.w:Int))∧w.cell? ⟨B,26,none⟩=some (.bool j.d)∧w.cell? ⟨B,27,none⟩=some (.bool j.r)∧w.cell? ⟨B,28,none⟩=some (.int .u64 j.l):=by
 have g:∀ i v,(jt (some j))[i]?=some v→w.cell? ⟨B,i,none⟩=some v:=fun i v hv=>(cell_of_row _ _ i _ _ _ h).trans (by simpa [ja] using hv)
 obtain ⟨h1,h2,h3,h4⟩:=jt_last j
 exact ⟨g 2 _ (jt_nt j 1 _ rfl),g 25 _ h1,g 26 _ h2,g 27 _ h3,g 28 _ h4⟩
section
variable {w:World} {h:Nat} {c:Cfg} {F:Fr} {H:Hm}
theorem rtake_heard9 (A:RefAt w h c F H) (n:Nt) (hw:Word n) (hr:ready c H n=0) (hk:n.k=9) (hh:n.h=false) (j:Jb) (hj:jbOf H n.b.toNat=some j) (hl:H.wt.length ≤ 65536):Calls Tryz.prog 14 #[.pointer (some ⟨h,0,none⟩),.agg (na n)] w fun e w'=>∃ F' v,e = .returned (.tuple #[v,.int .i64 (take c H n).2.2])∧RefAt w' h c F' (take c H n).1∧NSl w' v (take c H n).2.1∧RDid w w' h F F'∧∀ k,v.ownBlock=some k→w.heap.size ≤ k∧¬ F'.own h k∧F'.wv.ownBlock ≠ some k:=by
 obtain ⟨wb,hwb⟩:∃ wb,w.alloc (.cells (na n) 45)=wb:=⟨_,rfl⟩
 have hgb:w.grownBy wb none:=by rw [← hwb];exact grown_alloc (grown_refl _ _) _
 have hbx:wb.heap[w.heap.size]?=some (.cells (na n) 45 (0,0)):=by rw [← hwb];exact heap_alloc_new _ _
 have HAB:=qh (A.grown hgb)
 have HRY:=qh (rready_any HAB.out n)
 have HX:Hid (∀ w',wb.grownBy w' none→w'.heap[w.heap.size]?=some (.cells (na n) 45 (0,0))):=qh fun w' h'=>(h'.block _ (lt_of hbx) (by simp)).trans hbx
 have HR:Hid (∀ w',wb.grownBy w' none→w'.rangeAt w.heap.size 0 (nt n)):=qh fun w' h'=>tt.range_of (HX.out w' h')
 have HG:=qh hgb
 obtain ⟨hf1,hf2⟩:=ready_fits hr
 rw [hr] at HRY
 obtain ⟨b,hbn⟩:∃ b:Nat,n.b=(b:Int):=⟨n.b.toNat,by have:=(blk_lt hf1).1;omega⟩
 have hb:b < c.data.toNat:=by have:=(blk_lt hf1).2;omega
 have HBT:n.b.toNat=b:=by omega
 have HTK:Hid (take c H n=((heard H n).1,(heard H n).2,0)):=qh (take_heard hr (by omega) hj)
 have HNB:=qh hbn
 have hnm:=A.inv.noted n hf1 j hj hw
 rw [HBT] at hnm hj
 have hbj:b < H.jb.length:=by rw [A.inv.lj];exact hb
 have HWY:=qh (rheard H n b HBT j hj)
 have hjg:=jbOf_get hj
 have hjw:=(A.inv.jobs b j hjg).w
 have HBD:=qh hb
 have HWO:Hid (∀ w',_):=qh fun w'=>mm.rwout_any j.w n.f w' hjw
 have HNT:=qh (fun w'=>tt.rnet_any n.k w')
 have en0:(net n.k == 0)=false:=by
  have:¬ net n.k=0:=fun e=>by have:=(net_asks hf1.1.1).1 e;omega
  simpa using this
 have e11:(n.k == 11)=false:=by rw [hk];rfl
 have e10:(n.k == 10)=false:=by rw [hk];rfl
 obtain ⟨gj,oj,cj,hjv,_,_⟩:=A.jobAt hbj
 have HJR:Hid (∀ w',wb.grownBy w' none→w'.cell? ⟨h,10,none⟩=some (.slice (some ⟨gj,oj,none⟩) H.jb.length cj)∧w'.rangeAt gj (oj + b * 29) (jt (some j))):=qh fun w' h'=>by
  have hA:=HAB.out.grown h'
  obtain ⟨g',o',c',e',hr'⟩:=hA.jobRange hbj
  rw [hjv] at e';cases e'
  exact ⟨by rw [hA.parts.2.2.1,hjv],by rw [← hj];exact hr'⟩
 obtain ⟨q,hq⟩:∃ q,q=H.jb.length:=⟨_,rfl⟩
 have hlt:(b:Int) < (q:Int):=by omega
 have hle:(0:Int) ≤ (b:Int):=by omega
 have HQ:=qh hq
 have HJV:=qh hjv
 have HBJ:=qh hbj
 have HLL:Hid (H.wt.length ≤ 65536):=qh hl
 rw [← hq] at HJR
 rw [HTK.out]
 obtain ⟨nn,hnn⟩:∃ x,x=net n.k:=⟨_,rfl⟩
 rw [← hnn] at HNT en0
 rw [hh] at hnm HWY
 have HIJ:=qh hnm
 have hJ:noted j n={ j with w:=wo j.w n.f }:=by unfold noted;rw [hk];simp
 rw [hJ] at HIJ HWY
 have HHH:=qh hh
 have HOL:Hid (∀ i,F.own h i→i < w.heap.size):=qh fun i hi=>A.own_lt hi
 clear A hbx hgb hr hf1 hf2 hk hbn HBT hb hj hnm hbj hjg hjw hjv hq hnn hJ hw hl
 go_enter Tryz.func14,Tryz.ntmps14
 go_wp2_with (first
  | ((with_reducible refine tt.load_nt n _ w.heap.size ?_ (HR.out _ (by first | exact grown_refl _ _ | exact HG1.out)) ?_);(rfl))
  | (go_at_call 11;((with_reducible refine HRY.out.mono ?_);rintro e w1 ⟨rfl,hg1⟩;have HG1:=qh hg1;have hr1:=HR.out w1 hg1;have n0:=tt.cell_at hr1 0 _ rfl;have n3:=tt.cell_at hr1 3 _ rfl;rw [HNB.out] at n3;have j1:=(HJR.out w1 hg1).1;have HA1:=qh (HAB.out.grown hg1);clear hg1 hr1))
  | (go_at_call 38;((with_reducible refine (HNT.out _).mono ?_);rintro e w2 ⟨rfl,rfl⟩))
  | ((with_reducible refine load_jt (some j) _ gj (oj + b * 29) ?_ (HJR.out _ HG1.out).2 ?_);(rfl))
  | ((with_reducible refine store_jnew (some j) _ _ _ ?_ ?_ ?_ ?_);(rfl);(rfl);(rfl);(obtain ⟨BJ,hBJ⟩:∃ B,w2.heap.size=B:=⟨_,rfl⟩;obtain ⟨wJ,hwJ⟩:∃ x,w2.alloc (.cells (ja (some j)) 63)=x:=⟨_,rfl⟩;have HGJ:Hid (wb.grownBy wJ none):=qh (by rw [← hwJ];exact grown_alloc HG1.out _);have HBJ0:Hid (wJ.heap[BJ]?=some (.cells (ja (some j)) 63 (0,0))):=qh (by rw [← hwJ,← hBJ];exact heap_alloc_new _ _);have HBJL:Hid (wb.heap.size ≤ BJ):=qh (by rw [← hBJ];exact HG1.out.size);have hrJ:=HR.out wJ HGJ.out;have m0:=tt.cell_at hrJ 0 _ rfl;have m1:=tt.cell_at hrJ 1 _ rfl;have m4:=tt.cell_at hrJ 4 _ rfl;have m6:=tt.cell_at hrJ 6 _ rfl;obtain ⟨q2,q25,q26,q27,q28⟩:=ja_at HBJ0.out;have fJ:∀ i,wJ.frozen? ⟨BJ,i,none⟩=false:=(fun i=>by simp [World.frozen?,HBJ0.out]);rw [hwJ,hBJ];clear hwJ hBJ hrJ n0 n3 j1))
  | (go_at_call 51;((with_reducible refine (HWO.out _).mono ?_);rintro e w4 ⟨rfl,rfl⟩)))
 obtain ⟨wK,hwK⟩:∃ x,wJ.setCell ⟨BJ,25,none⟩ (.int .u32 ((wo j.w n.f:Nat):Int))=x:=⟨_,rfl⟩
 have HBK:Hid (wK.heap[BJ]?=some (.cells (ja (some { j with w:=wo j.w n.f })) 63 (0,0))):=qh (by rw [← hwK,setCell_heap HBJ0.out 25 _,(cellset j).1])
 have HGK:Hid (wb.grownBy wK none):=qh (by rw [← hwK];exact grown_put1 HGJ.out HBJL.out)
 rw [hwK]
 clear hwK m0 m1 m4 m6 q2 q25 q26 q27 q28 fJ
 obtain ⟨mm',hmm'⟩:∃ x,x=(if false=true then H.mm.set b n.d else H.mm):=⟨_,rfl⟩
 rw [← hmm'] at HIJ HWY
 have HAK:Hid (RefAt wK h c F { H with mm:=mm' }):=qh (by rw [hmm'];exact HAB.out.grown HGK.out)
 have HDK:Hid (RDid w wK h F F):=qh (RDid.of_grown h F (grown_trans HG.out HGK.out))
 have HXK:=qh (HX.out wK HGK.out)
 obtain ⟨J,hJ⟩:∃ x,x=({ j with w:=wo j.w n.f }:Jb):=⟨_,rfl⟩
 have HJA:Hid (J.a=j.a∧J.w=wo j.w n.f∧J.r=j.r∧J.l=j.l):=qh (by rw [hJ];exact ⟨rfl,rfl,rfl,rfl⟩)
 rw [← hJ] at HIJ HWY HBK
 clear hJ hmm'
 obtain ⟨tj,mj,HTJ,haggj,hsizej,hldj⟩:=namedJ
 have HJ2:Hid (∀ w':World,(w'.heap[h]?=some (.cells (F.cells c) 55 (0,0))∧w'.heap[BJ]?=some (.cells (ja (some J)) 63 (0,0)))→w'.cell? ⟨h,10,none⟩=some (.slice (some ⟨gj,oj,none⟩) q cj)∧(loadCellsFrom ⟨BJ,0,none⟩ 0 mj #[]).run Tryz.prog w' = .ok (ja (some J)) w'):=qh fun w' ⟨e1,e2⟩=>⟨by have h10:w'.cell? ⟨h,10,none⟩=some F.jv:=cr e1 10 rfl;rw [h10,HJV.out,← HQ.out],hldj _ _ _ w' (fun i v hv=>by rw [Nat.zero_add];exact (cell_of_row _ _ i _ _ _ e2).trans (by simpa [ja] using hv))⟩
 clear hldj
 rw [HTJ.out]
 refine wp_region_held_drew (S:=fun w'=>w'.heap[h]?=some (.cells (F.cells c) 55 (0,0))∧w'.heap[BJ]?=some (.cells (ja (some J)) 63 (0,0))) (by kernel_rfl) ⟨(HAK.out.grown (tt.grown_drew (grown_refl wK none))).blk,HBK.out⟩ (fun hHeld=>?_)
 have HAD:=qh (HAK.out.grown (tt.grown_drew (grown_refl wK none)))
 have HDD:=qh (HDK.out.trans (RDid.of_grown h F (tt.grown_drew (grown_refl wK none))))
 have HBD2:Hid (wK.drew.heap[BJ]?=some (.cells (ja (some J)) 63 (0,0))):=qh HBK.out
 have HXD:Hid (wK.drew.heap[w.heap.size]?=some (.cells (na n) 45 (0,0))):=qh HXK.out
 generalize wK.drew=wd at hHeld HAD HDD HBD2 HXD ⊢
 refine tl 0 ?_ rfl ?_ ?_ (tl 1 ?_ rfl ?_ ?_ (tl 2 ?_ rfl ?_ ?_ (tl 3 ?_ rfl ?_ ?_ (tl 4 ?_ rfl ?_ ?_ (tl 5 ?_ rfl ?_ ?_ (tl 6 ?_ rfl ?_ ?_ ?_))))))
 iterate 7 (rotate_left;(next=>(try simp only [lay]);((intro w0 hSw;obtain ⟨hs0,hs1⟩:=HJ2.out w0 hSw;go_simp);try (with_reducible rfl)));next=>rfl)
 try simp only [lay]
 obtain ⟨gq,oq,cq,hjq,hjf,hjc⟩:=HAD.out.jobAt (b:=b) HBJ.out
 rw [HJV.out] at hjq
 cases hjq
 obtain ⟨hAs,hgs⟩:=HAD.out.setJob HJV.out (b:=b) HBJ.out (some J) HIJ.out
 obtain ⟨ws,hws⟩:∃ ws,wd.setCells gj (oj + b * 29) (jt (some J))=ws:=⟨_,rfl⟩
 rw [hws] at hAs hgs
 have hd1:RDid wd ws h F F:=RDid.of_own hgs (fun i e=> .inr (.inr (.inr (by cases e;rw [HJV.out];rfl))))
 have HBS:=qh (hd1.heap HBD2.out (fun e=>by have:=HAB.out.own_lt e;have:=HBJL.out;omega))
 have HXS:=qh (hd1.heap HXD.out (fun e=>by have:=HOL.out _ e;omega))
 have HAS:=qh hAs
 have HDS:=qh (HDD.out.trans hd1)
 refine rd 7 rfl fun K hK=>?_
 refine jfire rfl 98 97 rfl gj (oj + b * 29) (some J) rfl rfl (there_jt hjf hjc) ?_
 rw [hws]
 refine hK.out _ _ ⟨HAS.out.blk,HBS.out⟩ (fun hHeld=>?_)
 clear hK K
 try simp only [lay]
 refine wpAnyH_done (by kernel_rfl) ?_ _
 clear hHeld hws hd1 hgs hAs hjf hjc HJ2
 obtain ⟨q2,q25,q26,q27,q28⟩:=ja_at HBS.out
 by_cases hm0:J.w=0
 ·have em:(((J.w:Nat):Int) != 0)=false:=by rw [hm0];rfl
  have hmw:wo j.w n.f=0:=by rw [← HJA.out.2.1];exact hm0
  have hbj2:b < H.jb.length:=HBJ.out
  have HJO:Hid (jbOf { H with mm:=mm',jb:=H.jb.set b (some J) } b=some J):=qh (get_jbOf (by show (H.jb.set b _)[b]?=_;rw [List.getElem?_set_self hbj2]))
  cases hrr:J.r with
  | false=>
   have HE:=qh (HWY.out.2.2 (by first | exact hmw | exact hm0) (by first | exact hrr | exact trivial | rfl | (rw [← HJA.out.2.2.1];exact hrr)))
   have HAN:=qh (ranswer_any HAS.out b HBD.out J HJO.out)
   have HWL:Hid (∀ k,F.wv.ownBlock=some k→k < ws.heap.size):=qh fun k e=>HAS.out.wt.lt k e
   have HSO:Hid (∀ i,F.own h i→i < ws.heap.size):=qh fun i hi=>HAS.out.own_lt hi
   rw [hrr] at q27
   clear hm0 hmw hbj2 hrr
   go_wp2_with (go_at_call 52;((with_reducible refine HAN.out.mono ?_);rintro e w6 ⟨v6,rfl,hA6,hS6,hD6,hf6⟩;have HA6:=qh hA6;have HS6:=qh hS6;have HD6:=qh hD6;have HF6:=qh hf6;clear hA6 hS6 hD6 hf6))
   go_ret2
   rw [HE.out]
   exact ⟨F,_,rfl,HA6.out,HS6.out,HDS.out.trans HD6.out,fun k hk=>⟨Nat.le_trans HDS.out.size (HF6.out k hk),fun e=>by have h1:=HSO.out _ e;have h2:=HF6.out k hk;omega,fun e=>by have h1:=HWL.out k e;have h2:=HF6.out k hk;omega⟩⟩
  | true=>
   have HE:=qh (HWY.out.2.1 (by first | exact hmw | exact hm0) (by first | exact hrr | exact trivial | rfl | (rw [← HJA.out.2.2.1];exact hrr)))
   rw [hrr] at q27
   clear hm0 hmw hbj2 hrr
   obtain ⟨x,hx⟩:∃ x,x=bare 7 (-1) J.a.f (b:Int) J.l 0 false false:=⟨_,rfl⟩
   have hn1:=tt.na_size x
   have hn2:=tt.build_na x
   have hn3:=(tt.bare_na 7 (-1) J.a.f (b:Int) J.l 0 false false).symm
   rw [← hx] at hn3
   have HXX:=qh hx
   clear hx
   obtain ⟨i0,hi,hz0,hz1,hz2⟩:=info_parts tt.infoN
   have HFL:Hid ((fin { H with mm:=mm',jb:=H.jb.set b (some J) } b).2.length ≤ 3000000):=qh (by
    have h1:=run_len b H.wt { H with mm:=mm',jb:=(H.jb.set b (some J)).set b none } []
    have h2:(fin { H with mm:=mm',jb:=H.jb.set b (some J) } b).2.length ≤ 33 * H.wt.length:=h1
    have:=HLL.out
    omega)
   have HEN:Hid (∀ W,RefAt W h c F { H with mm:=mm',jb:=H.jb.set b (some J) }→_):=qh fun W hA=>rend_any hA b HBD.out HLL.out
   go_wp2_with (first
    | (go_at_call 49;((with_reducible refine (HEN.out _ (HAS.out.grown (grown_alloc (grown_refl _ _) _))).mono ?_);rintro e w6 ⟨F6,v6,rfl,hA6,hS6,hD6,hf6⟩;have HA6:=qh hA6;have HS6:=qh hS6;have HD6:=qh hD6;have HF6:=qh hf6;have HX6:Hid (w6.heap[ws.heap.size]?=some (.cells (na x) 45 (0,0))):=qh (hD6.heap (heap_alloc_new _ _) (fun e=>by have:=HAS.out.own_lt e;omega));have HS1:Hid (tt.Sl w6 45 24 (.slice (some ⟨ws.heap.size,0,none⟩) 1 1) 1 (flat nt [x])):=qh (nsl_one HX6.out);have HU6:Hid (¬ F6.own h ws.heap.size∧F6.wv.ownBlock ≠ some ws.heap.size):=qh ⟨fun e=>(by have:=HAS.out.own_lt ((hD6.own _).1 e);omega),fun e=>(by rcases hD6.next with e1 | e1;(rw [e1] at e;have:=HAS.out.wt.lt _ e;omega);(have:=e1 _ e;simp at this;omega))⟩;have HD7:Hid (RDid w w6 h F F6):=qh (HDS.out.trans ((RDid.of_grown h F (grown_alloc (grown_refl _ _) _)).trans hD6));clear hA6 hS6 hD6 hf6))
    | ((with_reducible refine tt.append_sl 24 45 24 i0 (.agg (na zn)) 112 _ _ Tryz.underlying24 hi hz0 hz1 hz2 tt.zn_cells (.slice (some ⟨ws.heap.size,0,none⟩) 1 1) 1 (flat nt [x]) ?_ HS1.out v6 (fin { H with mm:=mm',jb:=H.jb.set b (some J) } b).2.length (flat nt (fin { H with mm:=mm',jb:=H.jb.set b (some J) } b).2) ?_ (HS6.out.src Tryz.underlying24 (tt.nflat_one _)) ?_ ?_ ?_);(rfl);(rfl);(have:=HFL.out;unfold maxLen;omega);(have:=HFL.out;omega);(intro v7 w7 hsl7 hgr7 hnx7;have hs7:NSl w7 v7 (x :: (fin { H with mm:=mm',jb:=H.jb.set b (some J) } b).2):=(by rw [← tt.flat_append] at hsl7;show tt.Sl _ _ 24 v7 _ _;rw [show (x :: (fin { H with mm:=mm',jb:=H.jb.set b (some J) } b).2).length=1 + (fin { H with mm:=mm',jb:=H.jb.set b (some J) } b).2.length by simp;omega];exact hsl7);have HS7:=qh hs7;have HG7:=qh hgr7;have HN7:=qh hnx7;clear hs7 hsl7 hgr7 hnx7)))
   go_ret2
   rw [HE.out]
   refine ⟨F6,v7,rfl,?_,by rw [HNB.out,← HJA.out.1,← HJA.out.2.2.2,← HXX.out];exact HS7.out,HD7.out.thenNew HG7.out (fun k e=>by cases e;exact HDS.out.size),fun k hk=>?_⟩
   ·refine HA6.out.keep fun i hi ho=>HG7.out.block i hi (fun e=>?_)
    obtain rfl:i=ws.heap.size:=Option.some.inj e
    rcases ho with ho | ho | ho
    ·exact HU6.out.1 ho
    ·have hb:=HA6.out.mem.blk
     rw [← ho] at hb
     exact tyne HX6.out hb (by decide) rfl
    ·exact HU6.out.2 ho
   ·rcases HN7.out with e | e
    ·obtain rfl:ws.heap.size=k:=Option.some.inj (e.symm.trans hk)
     exact ⟨HDS.out.size,HU6.out⟩
    ·have h6:=e k hk
     exact ⟨Nat.le_trans HD7.out.size h6,fun ho=>by have:=HA6.out.own_lt ho;omega,fun hw=>by have:=HA6.out.wt.lt k hw;omega⟩
 ·have em:(((J.w:Nat):Int) != 0)=true:=by simp;omega
  have HE:=qh (HWY.out.1 (by rw [← HJA.out.2.1];exact hm0))
  go_wp2_with fail
  go_ret2
  rw [HE.out]
  exact ⟨F,_,rfl,HAS.out,tt.Sl.nil _ _ _,HDS.out,fun k hk=>by simp [Value.ownBlock] at hk⟩
theorem rtake_heard10a (A:RefAt w h c F H) (n:Nt) (hw:Word n) (hr:ready c H n=0) (hk:n.k=10) (hh:n.h=false) (j:Jb) (hj:jbOf H n.b.toNat=some j) (hl:H.wt.length ≤ 65536) (hjr:j.r=false):Calls Tryz.prog 14 #[.pointer (some ⟨h,0,none⟩),.agg (na n)] w fun e w'=>∃ F' v,e = .returned (.tuple #[v,.int .i64 (take c H n).2.2])∧RefAt w' h c F' (take c H n).1∧NSl w' v (take c H n).2.1∧RDid w w' h F F'∧∀ k,v.ownBlock=some k→w.heap.size ≤ k∧¬ F'.own h k∧F'.wv.ownBlock ≠ some k:=by
 obtain ⟨wb,hwb⟩:∃ wb,w.alloc (.cells (na n) 45)=wb:=⟨_,rfl⟩
 have hgb:w.grownBy wb none:=by rw [← hwb];exact grown_alloc (grown_refl _ _) _
 have hbx:wb.heap[w.heap.size]?=some (.cells (na n) 45 (0,0)):=by rw [← hwb];exact heap_alloc_new _ _
 have HAB:=qh (A.grown hgb)
 have HRY:=qh (rready_any HAB.out n)
 have HX:Hid (∀ w',wb.grownBy w' none→w'.heap[w.heap.size]?=some (.cells (na n) 45 (0,0))):=qh fun w' h'=>(h'.block _ (lt_of hbx) (by simp)).trans hbx
 have HR:Hid (∀ w',wb.grownBy w' none→w'.rangeAt w.heap.size 0 (nt n)):=qh fun w' h'=>tt.range_of (HX.out w' h')
 have HG:=qh hgb
 obtain ⟨hf1,hf2⟩:=ready_fits hr
 rw [hr] at HRY
 obtain ⟨b,hbn⟩:∃ b:Nat,n.b=(b:Int):=⟨n.b.toNat,by have:=(blk_lt hf1).1;omega⟩
 have hb:b < c.data.toNat:=by have:=(blk_lt hf1).2;omega
 have HBT:n.b.toNat=b:=by omega
 have HTK:Hid (take c H n=((heard H n).1,(heard H n).2,0)):=qh (take_heard hr (by omega) hj)
 have HNB:=qh hbn
 have hnm:=A.inv.noted n hf1 j hj hw
 rw [HBT] at hnm hj
 have hbj:b < H.jb.length:=by rw [A.inv.lj];exact hb
 have HWY:=qh (rheard H n b HBT j hj)
 have hjg:=jbOf_get hj
 have hjw:=(A.inv.jobs b j hjg).w
 have HBD:=qh hb
 have HWO:Hid (∀ w',_):=qh fun w'=>mm.rwout_any j.w n.f w' hjw
 have HNT:=qh (fun w'=>tt.rnet_any n.k w')
 have en0:(net n.k == 0)=false:=by
  have:¬ net n.k=0:=fun e=>by have:=(net_asks hf1.1.1).1 e;omega
  simpa using this
 have e11:(n.k == 11)=false:=by rw [hk];rfl
 have e10:(n.k == 10)=true:=by rw [hk];rfl
 obtain ⟨gj,oj,cj,hjv,_,_⟩:=A.jobAt hbj
 have HJR:Hid (∀ w',wb.grownBy w' none→w'.cell? ⟨h,10,none⟩=some (.slice (some ⟨gj,oj,none⟩) H.jb.length cj)∧w'.rangeAt gj (oj + b * 29) (jt (some j))):=qh fun w' h'=>by
  have hA:=HAB.out.grown h'
  obtain ⟨g',o',c',e',hr'⟩:=hA.jobRange hbj
  rw [hjv] at e';cases e'
  exact ⟨by rw [hA.parts.2.2.1,hjv],by rw [← hj];exact hr'⟩
 obtain ⟨q,hq⟩:∃ q,q=H.jb.length:=⟨_,rfl⟩
 have hlt:(b:Int) < (q:Int):=by omega
 have hle:(0:Int) ≤ (b:Int):=by omega
 have HQ:=qh hq
 have HJV:=qh hjv
 have HBJ:=qh hbj
 have HLL:Hid (H.wt.length ≤ 65536):=qh hl
 rw [← hq] at HJR
 rw [HTK.out]
 obtain ⟨nn,hnn⟩:∃ x,x=net n.k:=⟨_,rfl⟩
 rw [← hnn] at HNT en0
 rw [hh] at hnm HWY
 have HIJ:=qh hnm
 have hJ:noted j n={ j with w:=wo j.w n.f,r:=true,l:=n.st }:=by unfold noted;rw [if_pos ⟨hk,.inl hjr⟩];simp [hk]
 rw [hJ] at HIJ HWY
 have HHH:=qh hh
 have HOL:Hid (∀ i,F.own h i→i < w.heap.size):=qh fun i hi=>A.own_lt hi
 clear A hbx hgb hr hf1 hf2 hk hbn HBT hb hj hnm hbj hjg hjw hjv hq hnn hJ hw hl
 go_enter Tryz.func14,Tryz.ntmps14
 go_wp2_with (first
  | ((with_reducible refine tt.load_nt n _ w.heap.size ?_ (HR.out _ (by first | exact grown_refl _ _ | exact HG1.out)) ?_);(rfl))
  | (go_at_call 11;((with_reducible refine HRY.out.mono ?_);rintro e w1 ⟨rfl,hg1⟩;have HG1:=qh hg1;have hr1:=HR.out w1 hg1;have n0:=tt.cell_at hr1 0 _ rfl;have n3:=tt.cell_at hr1 3 _ rfl;rw [HNB.out] at n3;have j1:=(HJR.out w1 hg1).1;have HA1:=qh (HAB.out.grown hg1);clear hg1 hr1))
  | (go_at_call 38;((with_reducible refine (HNT.out _).mono ?_);rintro e w2 ⟨rfl,rfl⟩))
  | ((with_reducible refine load_jt (some j) _ gj (oj + b * 29) ?_ (HJR.out _ HG1.out).2 ?_);(rfl))
  | ((with_reducible refine store_jnew (some j) _ _ _ ?_ ?_ ?_ ?_);(rfl);(rfl);(rfl);(obtain ⟨BJ,hBJ⟩:∃ B,w2.heap.size=B:=⟨_,rfl⟩;obtain ⟨wJ,hwJ⟩:∃ x,w2.alloc (.cells (ja (some j)) 63)=x:=⟨_,rfl⟩;have HGJ:Hid (wb.grownBy wJ none):=qh (by rw [← hwJ];exact grown_alloc HG1.out _);have HBJ0:Hid (wJ.heap[BJ]?=some (.cells (ja (some j)) 63 (0,0))):=qh (by rw [← hwJ,← hBJ];exact heap_alloc_new _ _);have HBJL:Hid (wb.heap.size ≤ BJ):=qh (by rw [← hBJ];exact HG1.out.size);have hrJ:=HR.out wJ HGJ.out;have m0:=tt.cell_at hrJ 0 _ rfl;have m1:=tt.cell_at hrJ 1 _ rfl;have m4:=tt.cell_at hrJ 4 _ rfl;have m6:=tt.cell_at hrJ 6 _ rfl;obtain ⟨q2,q25,q26,q27,q28⟩:=ja_at HBJ0.out;have fJ:∀ i,wJ.frozen? ⟨BJ,i,none⟩=false:=(fun i=>by simp [World.frozen?,HBJ0.out]);rw [hwJ,hBJ];clear hwJ hBJ hrJ n0 n3 j1))
  | (go_at_call 51;((with_reducible refine (HWO.out _).mono ?_);rintro e w4 ⟨rfl,rfl⟩)))
 obtain ⟨wK,hwK⟩:∃ x,((wJ.setCell ⟨BJ,28,none⟩ (.int .u64 n.st)).setCell ⟨BJ,27,none⟩ (.bool true)).setCell ⟨BJ,25,none⟩ (.int .u32 ((wo j.w n.f:Nat):Int))=x:=⟨_,rfl⟩
 have HBK:Hid (wK.heap[BJ]?=some (.cells (ja (some { j with w:=wo j.w n.f,r:=true,l:=n.st })) 63 (0,0))):=qh (by rw [← hwK,setCell_heap (setCell_heap (setCell_heap HBJ0.out 28 _) 27 _) 25 _,(cellset j).2.2,(cellset { j with l:=n.st }).2.1,(cellset { j with l:=n.st,r:=true }).1])
 have HGK:Hid (wb.grownBy wK none):=qh (by rw [← hwK];exact grown_put1 (grown_put1 (grown_put1 HGJ.out HBJL.out) HBJL.out) HBJL.out)
 rw [hwK]
 clear hwK m0 m1 m4 m6 q2 q25 q26 q27 q28 fJ
 obtain ⟨mm',hmm'⟩:∃ x,x=(if false=true then H.mm.set b n.d else H.mm):=⟨_,rfl⟩
 rw [← hmm'] at HIJ HWY
 have HAK:Hid (RefAt wK h c F { H with mm:=mm' }):=qh (by rw [hmm'];exact HAB.out.grown HGK.out)
 have HDK:Hid (RDid w wK h F F):=qh (RDid.of_grown h F (grown_trans HG.out HGK.out))
 have HXK:=qh (HX.out wK HGK.out)
 obtain ⟨J,hJ⟩:∃ x,x=({ j with w:=wo j.w n.f,r:=true,l:=n.st }:Jb):=⟨_,rfl⟩
 have HJA:Hid (J.a=j.a∧J.w=wo j.w n.f∧J.r=true∧J.l=n.st):=qh (by rw [hJ];exact ⟨rfl,rfl,rfl,rfl⟩)
 rw [← hJ] at HIJ HWY HBK
 clear hJ hmm'
 obtain ⟨tj,mj,HTJ,haggj,hsizej,hldj⟩:=namedJ
 have HJ2:Hid (∀ w':World,(w'.heap[h]?=some (.cells (F.cells c) 55 (0,0))∧w'.heap[BJ]?=some (.cells (ja (some J)) 63 (0,0)))→w'.cell? ⟨h,10,none⟩=some (.slice (some ⟨gj,oj,none⟩) q cj)∧(loadCellsFrom ⟨BJ,0,none⟩ 0 mj #[]).run Tryz.prog w' = .ok (ja (some J)) w'):=qh fun w' ⟨e1,e2⟩=>⟨by have h10:w'.cell? ⟨h,10,none⟩=some F.jv:=cr e1 10 rfl;rw [h10,HJV.out,← HQ.out],hldj _ _ _ w' (fun i v hv=>by rw [Nat.zero_add];exact (cell_of_row _ _ i _ _ _ e2).trans (by simpa [ja] using hv))⟩
 clear hldj
 rw [HTJ.out]
 refine wp_region_held_drew (S:=fun w'=>w'.heap[h]?=some (.cells (F.cells c) 55 (0,0))∧w'.heap[BJ]?=some (.cells (ja (some J)) 63 (0,0))) (by kernel_rfl) ⟨(HAK.out.grown (tt.grown_drew (grown_refl wK none))).blk,HBK.out⟩ (fun hHeld=>?_)
 have HAD:=qh (HAK.out.grown (tt.grown_drew (grown_refl wK none)))
 have HDD:=qh (HDK.out.trans (RDid.of_grown h F (tt.grown_drew (grown_refl wK none))))
 have HBD2:Hid (wK.drew.heap[BJ]?=some (.cells (ja (some J)) 63 (0,0))):=qh HBK.out
 have HXD:Hid (wK.drew.heap[w.heap.size]?=some (.cells (na n) 45 (0,0))):=qh HXK.out
 generalize wK.drew=wd at hHeld HAD HDD HBD2 HXD ⊢
 refine tl 0 ?_ rfl ?_ ?_ (tl 1 ?_ rfl ?_ ?_ (tl 2 ?_ rfl ?_ ?_ (tl 3 ?_ rfl ?_ ?_ (tl 4 ?_ rfl ?_ ?_ (tl 5 ?_ rfl ?_ ?_ (tl 6 ?_ rfl ?_ ?_ ?_))))))
 iterate 7 (rotate_left;(next=>(try simp only [lay]);((intro w0 hSw;obtain ⟨hs0,hs1⟩:=HJ2.out w0 hSw;go_simp);try (with_reducible rfl)));next=>rfl)
 try simp only [lay]
 obtain ⟨gq,oq,cq,hjq,hjf,hjc⟩:=HAD.out.jobAt (b:=b) HBJ.out
 rw [HJV.out] at hjq
 cases hjq
 obtain ⟨hAs,hgs⟩:=HAD.out.setJob HJV.out (b:=b) HBJ.out (some J) HIJ.out
 obtain ⟨ws,hws⟩:∃ ws,wd.setCells gj (oj + b * 29) (jt (some J))=ws:=⟨_,rfl⟩
 rw [hws] at hAs hgs
 have hd1:RDid wd ws h F F:=RDid.of_own hgs (fun i e=> .inr (.inr (.inr (by cases e;rw [HJV.out];rfl))))
 have HBS:=qh (hd1.heap HBD2.out (fun e=>by have:=HAB.out.own_lt e;have:=HBJL.out;omega))
 have HXS:=qh (hd1.heap HXD.out (fun e=>by have:=HOL.out _ e;omega))
 have HAS:=qh hAs
 have HDS:=qh (HDD.out.trans hd1)
 refine rd 7 rfl fun K hK=>?_
 refine jfire rfl 98 97 rfl gj (oj + b * 29) (some J) rfl rfl (there_jt hjf hjc) ?_
 rw [hws]
 refine hK.out _ _ ⟨HAS.out.blk,HBS.out⟩ (fun hHeld=>?_)
 clear hK K
 try simp only [lay]
 refine wpAnyH_done (by kernel_rfl) ?_ _
 clear hHeld hws hd1 hgs hAs hjf hjc HJ2
 obtain ⟨q2,q25,q26,q27,q28⟩:=ja_at HBS.out
 by_cases hm0:J.w=0
 ·have em:(((J.w:Nat):Int) != 0)=false:=by rw [hm0];rfl
  have hmw:wo j.w n.f=0:=by rw [← HJA.out.2.1];exact hm0
  have hbj2:b < H.jb.length:=HBJ.out
  have HJO:Hid (jbOf { H with mm:=mm',jb:=H.jb.set b (some J) } b=some J):=qh (get_jbOf (by show (H.jb.set b _)[b]?=_;rw [List.getElem?_set_self hbj2]))
  cases hrr:J.r with
  | false=>
   have HE:=qh (HWY.out.2.2 (by first | exact hmw | exact hm0) (by first | exact hrr | exact trivial | rfl | (rw [← HJA.out.2.2.1];exact hrr)))
   have HAN:=qh (ranswer_any HAS.out b HBD.out J HJO.out)
   have HWL:Hid (∀ k,F.wv.ownBlock=some k→k < ws.heap.size):=qh fun k e=>HAS.out.wt.lt k e
   have HSO:Hid (∀ i,F.own h i→i < ws.heap.size):=qh fun i hi=>HAS.out.own_lt hi
   rw [hrr] at q27
   clear hm0 hmw hbj2 hrr
   go_wp2_with (go_at_call 52;((with_reducible refine HAN.out.mono ?_);rintro e w6 ⟨v6,rfl,hA6,hS6,hD6,hf6⟩;have HA6:=qh hA6;have HS6:=qh hS6;have HD6:=qh hD6;have HF6:=qh hf6;clear hA6 hS6 hD6 hf6))
   go_ret2
   rw [HE.out]
   exact ⟨F,_,rfl,HA6.out,HS6.out,HDS.out.trans HD6.out,fun k hk=>⟨Nat.le_trans HDS.out.size (HF6.out k hk),fun e=>by have h1:=HSO.out _ e;have h2:=HF6.out k hk;omega,fun e=>by have h1:=HWL.out k e;have h2:=HF6.out k hk;omega⟩⟩
  | true=>
   have HE:=qh (HWY.out.2.1 (by first | exact hmw | exact hm0) (by first | exact hrr | exact trivial | rfl | (rw [← HJA.out.2.2.1];exact hrr)))
   rw [hrr] at q27
   clear hm0 hmw hbj2 hrr
   obtain ⟨x,hx⟩:∃ x,x=bare 7 (-1) J.a.f (b:Int) J.l 0 false false:=⟨_,rfl⟩
   have hn1:=tt.na_size x
   have hn2:=tt.build_na x
   have hn3:=(tt.bare_na 7 (-1) J.a.f (b:Int) J.l 0 false false).symm
   rw [← hx] at hn3
   have HXX:=qh hx
   clear hx
   obtain ⟨i0,hi,hz0,hz1,hz2⟩:=info_parts tt.infoN
   have HFL:Hid ((fin { H with mm:=mm',jb:=H.jb.set b (some J) } b).2.length ≤ 3000000):=qh (by
    have h1:=run_len b H.wt { H with mm:=mm',jb:=(H.jb.set b (some J)).set b none } []
    have h2:(fin { H with mm:=mm',jb:=H.jb.set b (some J) } b).2.length ≤ 33 * H.wt.length:=h1
    have:=HLL.out
    omega)
   have HEN:Hid (∀ W,RefAt W h c F { H with mm:=mm',jb:=H.jb.set b (some J) }→_):=qh fun W hA=>rend_any hA b HBD.out HLL.out
   go_wp2_with (first
    | (go_at_call 49;((with_reducible refine (HEN.out _ (HAS.out.grown (grown_alloc (grown_refl _ _) _))).mono ?_);rintro e w6 ⟨F6,v6,rfl,hA6,hS6,hD6,hf6⟩;have HA6:=qh hA6;have HS6:=qh hS6;have HD6:=qh hD6;have HF6:=qh hf6;have HX6:Hid (w6.heap[ws.heap.size]?=some (.cells (na x) 45 (0,0))):=qh (hD6.heap (heap_alloc_new _ _) (fun e=>by have:=HAS.out.own_lt e;omega));have HS1:Hid (tt.Sl w6 45 24 (.slice (some ⟨ws.heap.size,0,none⟩) 1 1) 1 (flat nt [x])):=qh (nsl_one HX6.out);have HU6:Hid (¬ F6.own h ws.heap.size∧F6.wv.ownBlock ≠ some ws.heap.size):=qh ⟨fun e=>(by have:=HAS.out.own_lt ((hD6.own _).1 e);omega),fun e=>(by rcases hD6.next with e1 | e1;(rw [e1] at e;have:=HAS.out.wt.lt _ e;omega);(have:=e1 _ e;simp at this;omega))⟩;have HD7:Hid (RDid w w6 h F F6):=qh (HDS.out.trans ((RDid.of_grown h F (grown_alloc (grown_refl _ _) _)).trans hD6));clear hA6 hS6 hD6 hf6))
    | ((with_reducible refine tt.append_sl 24 45 24 i0 (.agg (na zn)) 112 _ _ Tryz.underlying24 hi hz0 hz1 hz2 tt.zn_cells (.slice (some ⟨ws.heap.size,0,none⟩) 1 1) 1 (flat nt [x]) ?_ HS1.out v6 (fin { H with mm:=mm',jb:=H.jb.set b (some J) } b).2.length (flat nt (fin { H with mm:=mm',jb:=H.jb.set b (some J) } b).2) ?_ (HS6.out.src Tryz.underlying24 (tt.nflat_one _)) ?_ ?_ ?_);(rfl);(rfl);(have:=HFL.out;unfold maxLen;omega);(have:=HFL.out;omega);(intro v7 w7 hsl7 hgr7 hnx7;have hs7:NSl w7 v7 (x :: (fin { H with mm:=mm',jb:=H.jb.set b (some J) } b).2):=(by rw [← tt.flat_append] at hsl7;show tt.Sl _ _ 24 v7 _ _;rw [show (x :: (fin { H with mm:=mm',jb:=H.jb.set b (some J) } b).2).length=1 + (fin { H with mm:=mm',jb:=H.jb.set b (some J) } b).2.length by simp;omega];exact hsl7);have HS7:=qh hs7;have HG7:=qh hgr7;have HN7:=qh hnx7;clear hs7 hsl7 hgr7 hnx7)))
   go_ret2
   rw [HE.out]
   refine ⟨F6,v7,rfl,?_,by rw [HNB.out,← HJA.out.1,← HJA.out.2.2.2,← HXX.out];exact HS7.out,HD7.out.thenNew HG7.out (fun k e=>by cases e;exact HDS.out.size),fun k hk=>?_⟩
   ·refine HA6.out.keep fun i hi ho=>HG7.out.block i hi (fun e=>?_)
    obtain rfl:i=ws.heap.size:=Option.some.inj e
    rcases ho with ho | ho | ho
    ·exact HU6.out.1 ho
    ·have hb:=HA6.out.mem.blk
     rw [← ho] at hb
     exact tyne HX6.out hb (by decide) rfl
    ·exact HU6.out.2 ho
   ·rcases HN7.out with e | e
    ·obtain rfl:ws.heap.size=k:=Option.some.inj (e.symm.trans hk)
     exact ⟨HDS.out.size,HU6.out⟩
    ·have h6:=e k hk
     exact ⟨Nat.le_trans HD7.out.size h6,fun ho=>by have:=HA6.out.own_lt ho;omega,fun hw=>by have:=HA6.out.wt.lt k hw;omega⟩
 ·have em:(((J.w:Nat):Int) != 0)=true:=by simp;omega
  have HE:=qh (HWY.out.1 (by rw [← HJA.out.2.1];exact hm0))
  go_wp2_with fail
  go_ret2
  rw [HE.out]
  exact ⟨F,_,rfl,HAS.out,tt.Sl.nil _ _ _,HDS.out,fun k hk=>by simp [Value.ownBlock] at hk⟩
theorem rtake_heard10b (A:RefAt w h c F H) (n:Nt) (hw:Word n) (hr:ready c H n=0) (hk:n.k=10) (hh:n.h=false) (j:Jb) (hj:jbOf H n.b.toNat=some j) (hl:H.wt.length ≤ 65536) (hjr:j.r=true) (hlo:n.st < j.l):Calls Tryz.prog 14 #[.pointer (some ⟨h,0,none⟩),.agg (na n)] w fun e w'=>∃ F' v,e = .returned (.tuple #[v,.int .i64 (take c H n).2.2])∧RefAt w' h c F' (take c H n).1∧NSl w' v (take c H n).2.1∧RDid w w' h F F'∧∀ k,v.ownBlock=some k→w.heap.size ≤ k∧¬ F'.own h k∧F'.wv.ownBlock ≠ some k:=by
 obtain ⟨wb,hwb⟩:∃ wb,w.alloc (.cells (na n) 45)=wb:=⟨_,rfl⟩
 have hgb:w.grownBy wb none:=by rw [← hwb];exact grown_alloc (grown_refl _ _) _
 have hbx:wb.heap[w.heap.size]?=some (.cells (na n) 45 (0,0)):=by rw [← hwb];exact heap_alloc_new _ _
 have HAB:=qh (A.grown hgb)
 have HRY:=qh (rready_any HAB.out n)
 have HX:Hid (∀ w',wb.grownBy w' none→w'.heap[w.heap.size]?=some (.cells (na n) 45 (0,0))):=qh fun w' h'=>(h'.block _ (lt_of hbx) (by simp)).trans hbx
 have HR:Hid (∀ w',wb.grownBy w' none→w'.rangeAt w.heap.size 0 (nt n)):=qh fun w' h'=>tt.range_of (HX.out w' h')
 have HG:=qh hgb
 obtain ⟨hf1,hf2⟩:=ready_fits hr
 rw [hr] at HRY
 obtain ⟨b,hbn⟩:∃ b:Nat,n.b=(b:Int):=⟨n.b.toNat,by have:=(blk_lt hf1).1;omega⟩
 have hb:b < c.data.toNat:=by have:=(blk_lt hf1).2;omega
 have HBT:n.b.toNat=b:=by omega
 have HTK:Hid (take c H n=((heard H n).1,(heard H n).2,0)):=qh (take_heard hr (by omega) hj)
 have HNB:=qh hbn
 have hnm:=A.inv.noted n hf1 j hj hw
 rw [HBT] at hnm hj
 have hbj:b < H.jb.length:=by rw [A.inv.lj];exact hb
 have HWY:=qh (rheard H n b HBT j hj)
 have hjg:=jbOf_get hj
 have hjw:=(A.inv.jobs b j hjg).w
 have HBD:=qh hb
 have HWO:Hid (∀ w',_):=qh fun w'=>mm.rwout_any j.w n.f w' hjw
 have HNT:=qh (fun w'=>tt.rnet_any n.k w')
 have en0:(net n.k == 0)=false:=by
  have:¬ net n.k=0:=fun e=>by have:=(net_asks hf1.1.1).1 e;omega
  simpa using this
 have e11:(n.k == 11)=false:=by rw [hk];rfl
 have e10:(n.k == 10)=true:=by rw [hk];rfl
 obtain ⟨gj,oj,cj,hjv,_,_⟩:=A.jobAt hbj
 have HJR:Hid (∀ w',wb.grownBy w' none→w'.cell? ⟨h,10,none⟩=some (.slice (some ⟨gj,oj,none⟩) H.jb.length cj)∧w'.rangeAt gj (oj + b * 29) (jt (some j))):=qh fun w' h'=>by
  have hA:=HAB.out.grown h'
  obtain ⟨g',o',c',e',hr'⟩:=hA.jobRange hbj
  rw [hjv] at e';cases e'
  exact ⟨by rw [hA.parts.2.2.1,hjv],by rw [← hj];exact hr'⟩
 obtain ⟨q,hq⟩:∃ q,q=H.jb.length:=⟨_,rfl⟩
 have hlt:(b:Int) < (q:Int):=by omega
 have hle:(0:Int) ≤ (b:Int):=by omega
 have HQ:=qh hq
 have HJV:=qh hjv
 have HBJ:=qh hbj
 have HLL:Hid (H.wt.length ≤ 65536):=qh hl
 rw [← hq] at HJR
 rw [HTK.out]
 obtain ⟨nn,hnn⟩:∃ x,x=net n.k:=⟨_,rfl⟩
 rw [← hnn] at HNT en0
 rw [hh] at hnm HWY
 have HIJ:=qh hnm
 have hJ:noted j n={ j with w:=wo j.w n.f,r:=true,l:=n.st }:=by unfold noted;rw [if_pos ⟨hk,.inr hlo⟩];simp [hk]
 rw [hJ] at HIJ HWY
 have HHH:=qh hh
 have HOL:Hid (∀ i,F.own h i→i < w.heap.size):=qh fun i hi=>A.own_lt hi
 clear A hbx hgb hr hf1 hf2 hk hbn HBT hb hj hnm hbj hjg hjw hjv hq hnn hJ hw hl
 go_enter Tryz.func14,Tryz.ntmps14
 go_wp2_with (first
  | ((with_reducible refine tt.load_nt n _ w.heap.size ?_ (HR.out _ (by first | exact grown_refl _ _ | exact HG1.out)) ?_);(rfl))
  | (go_at_call 11;((with_reducible refine HRY.out.mono ?_);rintro e w1 ⟨rfl,hg1⟩;have HG1:=qh hg1;have hr1:=HR.out w1 hg1;have n0:=tt.cell_at hr1 0 _ rfl;have n3:=tt.cell_at hr1 3 _ rfl;rw [HNB.out] at n3;have j1:=(HJR.out w1 hg1).1;have HA1:=qh (HAB.out.grown hg1);clear hg1 hr1))
  | (go_at_call 38;((with_reducible refine (HNT.out _).mono ?_);rintro e w2 ⟨rfl,rfl⟩))
  | ((with_reducible refine load_jt (some j) _ gj (oj + b * 29) ?_ (HJR.out _ HG1.out).2 ?_);(rfl))
  | ((with_reducible refine store_jnew (some j) _ _ _ ?_ ?_ ?_ ?_);(rfl);(rfl);(rfl);(obtain ⟨BJ,hBJ⟩:∃ B,w2.heap.size=B:=⟨_,rfl⟩;obtain ⟨wJ,hwJ⟩:∃ x,w2.alloc (.cells (ja (some j)) 63)=x:=⟨_,rfl⟩;have HGJ:Hid (wb.grownBy wJ none):=qh (by rw [← hwJ];exact grown_alloc HG1.out _);have HBJ0:Hid (wJ.heap[BJ]?=some (.cells (ja (some j)) 63 (0,0))):=qh (by rw [← hwJ,← hBJ];exact heap_alloc_new _ _);have HBJL:Hid (wb.heap.size ≤ BJ):=qh (by rw [← hBJ];exact HG1.out.size);have hrJ:=HR.out wJ HGJ.out;have m0:=tt.cell_at hrJ 0 _ rfl;have m1:=tt.cell_at hrJ 1 _ rfl;have m4:=tt.cell_at hrJ 4 _ rfl;have m6:=tt.cell_at hrJ 6 _ rfl;obtain ⟨q2,q25,q26,q27,q28⟩:=ja_at HBJ0.out;have fJ:∀ i,wJ.frozen? ⟨BJ,i,none⟩=false:=(fun i=>by simp [World.frozen?,HBJ0.out]);rw [hwJ,hBJ];clear hwJ hBJ hrJ n0 n3 j1))
  | (go_at_call 51;((with_reducible refine (HWO.out _).mono ?_);rintro e w4 ⟨rfl,rfl⟩)))
 obtain ⟨wK,hwK⟩:∃ x,((wJ.setCell ⟨BJ,28,none⟩ (.int .u64 n.st)).setCell ⟨BJ,27,none⟩ (.bool true)).setCell ⟨BJ,25,none⟩ (.int .u32 ((wo j.w n.f:Nat):Int))=x:=⟨_,rfl⟩
 have HBK:Hid (wK.heap[BJ]?=some (.cells (ja (some { j with w:=wo j.w n.f,r:=true,l:=n.st })) 63 (0,0))):=qh (by rw [← hwK,setCell_heap (setCell_heap (setCell_heap HBJ0.out 28 _) 27 _) 25 _,(cellset j).2.2,(cellset { j with l:=n.st }).2.1,(cellset { j with l:=n.st,r:=true }).1])
 have HGK:Hid (wb.grownBy wK none):=qh (by rw [← hwK];exact grown_put1 (grown_put1 (grown_put1 HGJ.out HBJL.out) HBJL.out) HBJL.out)
 rw [hwK]
 clear hwK m0 m1 m4 m6 q2 q25 q26 q27 q28 fJ
 obtain ⟨mm',hmm'⟩:∃ x,x=(if false=true then H.mm.set b n.d else H.mm):=⟨_,rfl⟩
 rw [← hmm'] at HIJ HWY
 have HAK:Hid (RefAt wK h c F { H with mm:=mm' }):=qh (by rw [hmm'];exact HAB.out.grown HGK.out)
 have HDK:Hid (RDid w wK h F F):=qh (RDid.of_grown h F (grown_trans HG.out HGK.out))
 have HXK:=qh (HX.out wK HGK.out)
 obtain ⟨J,hJ⟩:∃ x,x=({ j with w:=wo j.w n.f,r:=true,l:=n.st }:Jb):=⟨_,rfl⟩
 have HJA:Hid (J.a=j.a∧J.w=wo j.w n.f∧J.r=true∧J.l=n.st):=qh (by rw [hJ];exact ⟨rfl,rfl,rfl,rfl⟩)
 rw [← hJ] at HIJ HWY HBK
 clear hJ hmm'
 obtain ⟨tj,mj,HTJ,haggj,hsizej,hldj⟩:=namedJ
 have HJ2:Hid (∀ w':World,(w'.heap[h]?=some (.cells (F.cells c) 55 (0,0))∧w'.heap[BJ]?=some (.cells (ja (some J)) 63 (0,0)))→w'.cell? ⟨h,10,none⟩=some (.slice (some ⟨gj,oj,none⟩) q cj)∧(loadCellsFrom ⟨BJ,0,none⟩ 0 mj #[]).run Tryz.prog w' = .ok (ja (some J)) w'):=qh fun w' ⟨e1,e2⟩=>⟨by have h10:w'.cell? ⟨h,10,none⟩=some F.jv:=cr e1 10 rfl;rw [h10,HJV.out,← HQ.out],hldj _ _ _ w' (fun i v hv=>by rw [Nat.zero_add];exact (cell_of_row _ _ i _ _ _ e2).trans (by simpa [ja] using hv))⟩
 clear hldj
 rw [HTJ.out]
 refine wp_region_held_drew (S:=fun w'=>w'.heap[h]?=some (.cells (F.cells c) 55 (0,0))∧w'.heap[BJ]?=some (.cells (ja (some J)) 63 (0,0))) (by kernel_rfl) ⟨(HAK.out.grown (tt.grown_drew (grown_refl wK none))).blk,HBK.out⟩ (fun hHeld=>?_)
 have HAD:=qh (HAK.out.grown (tt.grown_drew (grown_refl wK none)))
 have HDD:=qh (HDK.out.trans (RDid.of_grown h F (tt.grown_drew (grown_refl wK none))))
 have HBD2:Hid (wK.drew.heap[BJ]?=some (.cells (ja (some J)) 63 (0,0))):=qh HBK.out
 have HXD:Hid (wK.drew.heap[w.heap.size]?=some (.cells (na n) 45 (0,0))):=qh HXK.out
 generalize wK.drew=wd at hHeld HAD HDD HBD2 HXD ⊢
 refine tl 0 ?_ rfl ?_ ?_ (tl 1 ?_ rfl ?_ ?_ (tl 2 ?_ rfl ?_ ?_ (tl 3 ?_ rfl ?_ ?_ (tl 4 ?_ rfl ?_ ?_ (tl 5 ?_ rfl ?_ ?_ (tl 6 ?_ rfl ?_ ?_ ?_))))))
 iterate 7 (rotate_left;(next=>(try simp only [lay]);((intro w0 hSw;obtain ⟨hs0,hs1⟩:=HJ2.out w0 hSw;go_simp);try (with_reducible rfl)));next=>rfl)
 try simp only [lay]
 obtain ⟨gq,oq,cq,hjq,hjf,hjc⟩:=HAD.out.jobAt (b:=b) HBJ.out
 rw [HJV.out] at hjq
 cases hjq
 obtain ⟨hAs,hgs⟩:=HAD.out.setJob HJV.out (b:=b) HBJ.out (some J) HIJ.out
 obtain ⟨ws,hws⟩:∃ ws,wd.setCells gj (oj + b * 29) (jt (some J))=ws:=⟨_,rfl⟩
 rw [hws] at hAs hgs
 have hd1:RDid wd ws h F F:=RDid.of_own hgs (fun i e=> .inr (.inr (.inr (by cases e;rw [HJV.out];rfl))))
 have HBS:=qh (hd1.heap HBD2.out (fun e=>by have:=HAB.out.own_lt e;have:=HBJL.out;omega))
 have HXS:=qh (hd1.heap HXD.out (fun e=>by have:=HOL.out _ e;omega))
 have HAS:=qh hAs
 have HDS:=qh (HDD.out.trans hd1)
 refine rd 7 rfl fun K hK=>?_
 refine jfire rfl 98 97 rfl gj (oj + b * 29) (some J) rfl rfl (there_jt hjf hjc) ?_
 rw [hws]
 refine hK.out _ _ ⟨HAS.out.blk,HBS.out⟩ (fun hHeld=>?_)
 clear hK K
 try simp only [lay]
 refine wpAnyH_done (by kernel_rfl) ?_ _
 clear hHeld hws hd1 hgs hAs hjf hjc HJ2
 obtain ⟨q2,q25,q26,q27,q28⟩:=ja_at HBS.out
 by_cases hm0:J.w=0
 ·have em:(((J.w:Nat):Int) != 0)=false:=by rw [hm0];rfl
  have hmw:wo j.w n.f=0:=by rw [← HJA.out.2.1];exact hm0
  have hbj2:b < H.jb.length:=HBJ.out
  have HJO:Hid (jbOf { H with mm:=mm',jb:=H.jb.set b (some J) } b=some J):=qh (get_jbOf (by show (H.jb.set b _)[b]?=_;rw [List.getElem?_set_self hbj2]))
  cases hrr:J.r with
  | false=>
   have HE:=qh (HWY.out.2.2 (by first | exact hmw | exact hm0) (by first | exact hrr | exact trivial | rfl | (rw [← HJA.out.2.2.1];exact hrr)))
   have HAN:=qh (ranswer_any HAS.out b HBD.out J HJO.out)
   have HWL:Hid (∀ k,F.wv.ownBlock=some k→k < ws.heap.size):=qh fun k e=>HAS.out.wt.lt k e
   have HSO:Hid (∀ i,F.own h i→i < ws.heap.size):=qh fun i hi=>HAS.out.own_lt hi
   rw [hrr] at q27
   clear hm0 hmw hbj2 hrr
   go_wp2_with (go_at_call 52;((with_reducible refine HAN.out.mono ?_);rintro e w6 ⟨v6,rfl,hA6,hS6,hD6,hf6⟩;have HA6:=qh hA6;have HS6:=qh hS6;have HD6:=qh hD6;have HF6:=qh hf6;clear hA6 hS6 hD6 hf6))
   go_ret2
   rw [HE.out]
   exact ⟨F,_,rfl,HA6.out,HS6.out,HDS.out.trans HD6.out,fun k hk=>⟨Nat.le_trans HDS.out.size (HF6.out k hk),fun e=>by have h1:=HSO.out _ e;have h2:=HF6.out k hk;omega,fun e=>by have h1:=HWL.out k e;have h2:=HF6.out k hk;omega⟩⟩
  | true=>
   have HE:=qh (HWY.out.2.1 (by first | exact hmw | exact hm0) (by first | exact hrr | exact trivial | rfl | (rw [← HJA.out.2.2.1];exact hrr)))
   rw [hrr] at q27
   clear hm0 hmw hbj2 hrr
   obtain ⟨x,hx⟩:∃ x,x=bare 7 (-1) J.a.f (b:Int) J.l 0 false false:=⟨_,rfl⟩
   have hn1:=tt.na_size x
   have hn2:=tt.build_na x
   have hn3:=(tt.bare_na 7 (-1) J.a.f (b:Int) J.l 0 false false).symm
   rw [← hx] at hn3
   have HXX:=qh hx
   clear hx
   obtain ⟨i0,hi,hz0,hz1,hz2⟩:=info_parts tt.infoN
   have HFL:Hid ((fin { H with mm:=mm',jb:=H.jb.set b (some J) } b).2.length ≤ 3000000):=qh (by
    have h1:=run_len b H.wt { H with mm:=mm',jb:=(H.jb.set b (some J)).set b none } []
    have h2:(fin { H with mm:=mm',jb:=H.jb.set b (some J) } b).2.length ≤ 33 * H.wt.length:=h1
    have:=HLL.out
    omega)
   have HEN:Hid (∀ W,RefAt W h c F { H with mm:=mm',jb:=H.jb.set b (some J) }→_):=qh fun W hA=>rend_any hA b HBD.out HLL.out
   go_wp2_with (first
    | (go_at_call 49;((with_reducible refine (HEN.out _ (HAS.out.grown (grown_alloc (grown_refl _ _) _))).mono ?_);rintro e w6 ⟨F6,v6,rfl,hA6,hS6,hD6,hf6⟩;have HA6:=qh hA6;have HS6:=qh hS6;have HD6:=qh hD6;have HF6:=qh hf6;have HX6:Hid (w6.heap[ws.heap.size]?=some (.cells (na x) 45 (0,0))):=qh (hD6.heap (heap_alloc_new _ _) (fun e=>by have:=HAS.out.own_lt e;omega));have HS1:Hid (tt.Sl w6 45 24 (.slice (some ⟨ws.heap.size,0,none⟩) 1 1) 1 (flat nt [x])):=qh (nsl_one HX6.out);have HU6:Hid (¬ F6.own h ws.heap.size∧F6.wv.ownBlock ≠ some ws.heap.size):=qh ⟨fun e=>(by have:=HAS.out.own_lt ((hD6.own _).1 e);omega),fun e=>(by rcases hD6.next with e1 | e1;(rw [e1] at e;have:=HAS.out.wt.lt _ e;omega);(have:=e1 _ e;simp at this;omega))⟩;have HD7:Hid (RDid w w6 h F F6):=qh (HDS.out.trans ((RDid.of_grown h F (grown_alloc (grown_refl _ _) _)).trans hD6));clear hA6 hS6 hD6 hf6))
    | ((with_reducible refine tt.append_sl 24 45 24 i0 (.agg (na zn)) 112 _ _ Tryz.underlying24 hi hz0 hz1 hz2 tt.zn_cells (.slice (some ⟨ws.heap.size,0,none⟩) 1 1) 1 (flat nt [x]) ?_ HS1.out v6 (fin { H with mm:=mm',jb:=H.jb.set b (some J) } b).2.length (flat nt (fin { H with mm:=mm',jb:=H.jb.set b (some J) } b).2) ?_ (HS6.out.src Tryz.underlying24 (tt.nflat_one _)) ?_ ?_ ?_);(rfl);(rfl);(have:=HFL.out;unfold maxLen;omega);(have:=HFL.out;omega);(intro v7 w7 hsl7 hgr7 hnx7;have hs7:NSl w7 v7 (x :: (fin { H with mm:=mm',jb:=H.jb.set b (some J) } b).2):=(by rw [← tt.flat_append] at hsl7;show tt.Sl _ _ 24 v7 _ _;rw [show (x :: (fin { H with mm:=mm',jb:=H.jb.set b (some J) } b).2).length=1 + (fin { H with mm:=mm',jb:=H.jb.set b (some J) } b).2.length by simp;omega];exact hsl7);have HS7:=qh hs7;have HG7:=qh hgr7;have HN7:=qh hnx7;clear hs7 hsl7 hgr7 hnx7)))
   go_ret2
   rw [HE.out]
   refine ⟨F6,v7,rfl,?_,by rw [HNB.out,← HJA.out.1,← HJA.out.2.2.2,← HXX.out];exact HS7.out,HD7.out.thenNew HG7.out (fun k e=>by cases e;exact HDS.out.size),fun k hk=>?_⟩
   ·refine HA6.out.keep fun i hi ho=>HG7.out.block i hi (fun e=>?_)
    obtain rfl:i=ws.heap.size:=Option.some.inj e
    rcases ho with ho | ho | ho
    ·exact HU6.out.1 ho
    ·have hb:=HA6.out.mem.blk
     rw [← ho] at hb
     exact tyne HX6.out hb (by decide) rfl
    ·exact HU6.out.2 ho
   ·rcases HN7.out with e | e
    ·obtain rfl:ws.heap.size=k:=Option.some.inj (e.symm.trans hk)
     exact ⟨HDS.out.size,HU6.out⟩
    ·have h6:=e k hk
     exact ⟨Nat.le_trans HD7.out.size h6,fun ho=>by have:=HA6.out.own_lt ho;omega,fun hw=>by have:=HA6.out.wt.lt k hw;omega⟩
 ·have em:(((J.w:Nat):Int) != 0)=true:=by simp;omega
  have HE:=qh (HWY.out.1 (by rw [← HJA.out.2.1];exact hm0))
  go_wp2_with fail
  go_ret2
  rw [HE.out]
  exact ⟨F,_,rfl,HAS.out,tt.Sl.nil _ _ _,HDS.out,fun k hk=>by simp [Value.ownBlock] at hk⟩
theorem rtake_heard10c (A:RefAt w h c F H) (n:Nt) (hw:Word n) (hr:ready c H n=0) (hk:n.k=10) (hh:n.h=false) (j:Jb) (hj:jbOf H n.b.toNat=some j) (hl:H.wt.length ≤ 65536) (hjr:j.r=true) (hlo:¬ n.st < j.l):Calls Tryz.prog 14 #[.pointer (some ⟨h,0,none⟩),.agg (na n)] w fun e w'=>∃ F' v,e = .returned (.tuple #[v,.int .i64 (take c H n).2.2])∧RefAt w' h c F' (take c H n).1∧NSl w' v (take c H n).2.1∧RDid w w' h F F'∧∀ k,v.ownBlock=some k→w.heap.size ≤ k∧¬ F'.own h k∧F'.wv.ownBlock ≠ some k:=by
 obtain ⟨wb,hwb⟩:∃ wb,w.alloc (.cells (na n) 45)=wb:=⟨_,rfl⟩
 have hgb:w.grownBy wb none:=by rw [← hwb];exact grown_alloc (grown_refl _ _) _
 have hbx:wb.heap[w.heap.size]?=some (.cells (na n) 45 (0,0)):=by rw [← hwb];exact heap_alloc_new _ _
 have HAB:=qh (A.grown hgb)
 have HRY:=qh (rready_any HAB.out n)
 have HX:Hid (∀ w',wb.grownBy w' none→w'.heap[w.heap.size]?=some (.cells (na n) 45 (0,0))):=qh fun w' h'=>(h'.block _ (lt_of hbx) (by simp)).trans hbx
 have HR:Hid (∀ w',wb.grownBy w' none→w'.rangeAt w.heap.size 0 (nt n)):=qh fun w' h'=>tt.range_of (HX.out w' h')
 have HG:=qh hgb
 obtain ⟨hf1,hf2⟩:=ready_fits hr
 rw [hr] at HRY
 obtain ⟨b,hbn⟩:∃ b:Nat,n.b=(b:Int):=⟨n.b.toNat,by have:=(blk_lt hf1).1;omega⟩
 have hb:b < c.data.toNat:=by have:=(blk_lt hf1).2;omega
 have HBT:n.b.toNat=b:=by omega
 have HTK:Hid (take c H n=((heard H n).1,(heard H n).2,0)):=qh (take_heard hr (by omega) hj)
 have HNB:=qh hbn
 have hnm:=A.inv.noted n hf1 j hj hw
 rw [HBT] at hnm hj
 have hbj:b < H.jb.length:=by rw [A.inv.lj];exact hb
 have HWY:=qh (rheard H n b HBT j hj)
 have hjg:=jbOf_get hj
 have hjw:=(A.inv.jobs b j hjg).w
 have HBD:=qh hb
 have HWO:Hid (∀ w',_):=qh fun w'=>mm.rwout_any j.w n.f w' hjw
 have HNT:=qh (fun w'=>tt.rnet_any n.k w')
 have en0:(net n.k == 0)=false:=by
  have:¬ net n.k=0:=fun e=>by have:=(net_asks hf1.1.1).1 e;omega
  simpa using this
 have e11:(n.k == 11)=false:=by rw [hk];rfl
 have e10:(n.k == 10)=true:=by rw [hk];rfl
 obtain ⟨gj,oj,cj,hjv,_,_⟩:=A.jobAt hbj
 have HJR:Hid (∀ w',wb.grownBy w' none→w'.cell? ⟨h,10,none⟩=some (.slice (some ⟨gj,oj,none⟩) H.jb.length cj)∧w'.rangeAt gj (oj + b * 29) (jt (some j))):=qh fun w' h'=>by
  have hA:=HAB.out.grown h'
  obtain ⟨g',o',c',e',hr'⟩:=hA.jobRange hbj
  rw [hjv] at e';cases e'
  exact ⟨by rw [hA.parts.2.2.1,hjv],by rw [← hj];exact hr'⟩
 obtain ⟨q,hq⟩:∃ q,q=H.jb.length:=⟨_,rfl⟩
 have hlt:(b:Int) < (q:Int):=by omega
 have hle:(0:Int) ≤ (b:Int):=by omega
 have HQ:=qh hq
 have HJV:=qh hjv
 have HBJ:=qh hbj
 have HLL:Hid (H.wt.length ≤ 65536):=qh hl
 rw [← hq] at HJR
 rw [HTK.out]
 obtain ⟨nn,hnn⟩:∃ x,x=net n.k:=⟨_,rfl⟩
 rw [← hnn] at HNT en0
 rw [hh] at hnm HWY
 have HIJ:=qh hnm
 have hJ:noted j n={ j with w:=wo j.w n.f,r:=true }:=by unfold noted;rw [if_neg (fun e=>e.2.elim (fun e=>by rw [hjr] at e;cases e) hlo)];simp [hk]
 rw [hJ] at HIJ HWY
 have HHH:=qh hh
 have HOL:Hid (∀ i,F.own h i→i < w.heap.size):=qh fun i hi=>A.own_lt hi
 clear A hbx hgb hr hf1 hf2 hk hbn HBT hb hj hnm hbj hjg hjw hjv hq hnn hJ hw hl
 go_enter Tryz.func14,Tryz.ntmps14
 go_wp2_with (first
  | ((with_reducible refine tt.load_nt n _ w.heap.size ?_ (HR.out _ (by first | exact grown_refl _ _ | exact HG1.out)) ?_);(rfl))
  | (go_at_call 11;((with_reducible refine HRY.out.mono ?_);rintro e w1 ⟨rfl,hg1⟩;have HG1:=qh hg1;have hr1:=HR.out w1 hg1;have n0:=tt.cell_at hr1 0 _ rfl;have n3:=tt.cell_at hr1 3 _ rfl;rw [HNB.out] at n3;have j1:=(HJR.out w1 hg1).1;have HA1:=qh (HAB.out.grown hg1);clear hg1 hr1))
  | (go_at_call 38;((with_reducible refine (HNT.out _).mono ?_);rintro e w2 ⟨rfl,rfl⟩))
  | ((with_reducible refine load_jt (some j) _ gj (oj + b * 29) ?_ (HJR.out _ HG1.out).2 ?_);(rfl))
  | ((with_reducible refine store_jnew (some j) _ _ _ ?_ ?_ ?_ ?_);(rfl);(rfl);(rfl);(obtain ⟨BJ,hBJ⟩:∃ B,w2.heap.size=B:=⟨_,rfl⟩;obtain ⟨wJ,hwJ⟩:∃ x,w2.alloc (.cells (ja (some j)) 63)=x:=⟨_,rfl⟩;have HGJ:Hid (wb.grownBy wJ none):=qh (by rw [← hwJ];exact grown_alloc HG1.out _);have HBJ0:Hid (wJ.heap[BJ]?=some (.cells (ja (some j)) 63 (0,0))):=qh (by rw [← hwJ,← hBJ];exact heap_alloc_new _ _);have HBJL:Hid (wb.heap.size ≤ BJ):=qh (by rw [← hBJ];exact HG1.out.size);have hrJ:=HR.out wJ HGJ.out;have m0:=tt.cell_at hrJ 0 _ rfl;have m1:=tt.cell_at hrJ 1 _ rfl;have m4:=tt.cell_at hrJ 4 _ rfl;have m6:=tt.cell_at hrJ 6 _ rfl;obtain ⟨q2,q25,q26,q27,q28⟩:=ja_at HBJ0.out;have fJ:∀ i,wJ.frozen? ⟨BJ,i,none⟩=false:=(fun i=>by simp [World.frozen?,HBJ0.out]);rw [hwJ,hBJ];clear hwJ hBJ hrJ n0 n3 j1))
  | (go_at_call 51;((with_reducible refine (HWO.out _).mono ?_);rintro e w4 ⟨rfl,rfl⟩)))
 obtain ⟨wK,hwK⟩:∃ x,(wJ.setCell ⟨BJ,27,none⟩ (.bool true)).setCell ⟨BJ,25,none⟩ (.int .u32 ((wo j.w n.f:Nat):Int))=x:=⟨_,rfl⟩
 have HBK:Hid (wK.heap[BJ]?=some (.cells (ja (some { j with w:=wo j.w n.f,r:=true })) 63 (0,0))):=qh (by rw [← hwK,setCell_heap (setCell_heap HBJ0.out 27 _) 25 _,(cellset j).2.1,(cellset { j with r:=true }).1])
 have HGK:Hid (wb.grownBy wK none):=qh (by rw [← hwK];exact grown_put1 (grown_put1 HGJ.out HBJL.out) HBJL.out)
 rw [hwK]
 clear hwK m0 m1 m4 m6 q2 q25 q26 q27 q28 fJ
 obtain ⟨mm',hmm'⟩:∃ x,x=(if false=true then H.mm.set b n.d else H.mm):=⟨_,rfl⟩
 rw [← hmm'] at HIJ HWY
 have HAK:Hid (RefAt wK h c F { H with mm:=mm' }):=qh (by rw [hmm'];exact HAB.out.grown HGK.out)
 have HDK:Hid (RDid w wK h F F):=qh (RDid.of_grown h F (grown_trans HG.out HGK.out))
 have HXK:=qh (HX.out wK HGK.out)
 obtain ⟨J,hJ⟩:∃ x,x=({ j with w:=wo j.w n.f,r:=true }:Jb):=⟨_,rfl⟩
 have HJA:Hid (J.a=j.a∧J.w=wo j.w n.f∧J.r=true∧J.l=j.l):=qh (by rw [hJ];exact ⟨rfl,rfl,rfl,rfl⟩)
 rw [← hJ] at HIJ HWY HBK
 clear hJ hmm'
 obtain ⟨tj,mj,HTJ,haggj,hsizej,hldj⟩:=namedJ
 have HJ2:Hid (∀ w':World,(w'.heap[h]?=some (.cells (F.cells c) 55 (0,0))∧w'.heap[BJ]?=some (.cells (ja (some J)) 63 (0,0)))→w'.cell? ⟨h,10,none⟩=some (.slice (some ⟨gj,oj,none⟩) q cj)∧(loadCellsFrom ⟨BJ,0,none⟩ 0 mj #[]).run Tryz.prog w' = .ok (ja (some J)) w'):=qh fun w' ⟨e1,e2⟩=>⟨by have h10:w'.cell? ⟨h,10,none⟩=some F.jv:=cr e1 10 rfl;rw [h10,HJV.out,← HQ.out],hldj _ _ _ w' (fun i v hv=>by rw [Nat.zero_add];exact (cell_of_row _ _ i _ _ _ e2).trans (by simpa [ja] using hv))⟩
 clear hldj
 rw [HTJ.out]
 refine wp_region_held_drew (S:=fun w'=>w'.heap[h]?=some (.cells (F.cells c) 55 (0,0))∧w'.heap[BJ]?=some (.cells (ja (some J)) 63 (0,0))) (by kernel_rfl) ⟨(HAK.out.grown (tt.grown_drew (grown_refl wK none))).blk,HBK.out⟩ (fun hHeld=>?_)
 have HAD:=qh (HAK.out.grown (tt.grown_drew (grown_refl wK none)))
 have HDD:=qh (HDK.out.trans (RDid.of_grown h F (tt.grown_drew (grown_refl wK none))))
 have HBD2:Hid (wK.drew.heap[BJ]?=some (.cells (ja (some J)) 63 (0,0))):=qh HBK.out
 have HXD:Hid (wK.drew.heap[w.heap.size]?=some (.cells (na n) 45 (0,0))):=qh HXK.out
 generalize wK.drew=wd at hHeld HAD HDD HBD2 HXD ⊢
 refine tl 0 ?_ rfl ?_ ?_ (tl 1 ?_ rfl ?_ ?_ (tl 2 ?_ rfl ?_ ?_ (tl 3 ?_ rfl ?_ ?_ (tl 4 ?_ rfl ?_ ?_ (tl 5 ?_ rfl ?_ ?_ (tl 6 ?_ rfl ?_ ?_ ?_))))))
 iterate 7 (rotate_left;(next=>(try simp only [lay]);((intro w0 hSw;obtain ⟨hs0,hs1⟩:=HJ2.out w0 hSw;go_simp);try (with_reducible rfl)));next=>rfl)
 try simp only [lay]
 obtain ⟨gq,oq,cq,hjq,hjf,hjc⟩:=HAD.out.jobAt (b:=b) HBJ.out
 rw [HJV.out] at hjq
 cases hjq
 obtain ⟨hAs,hgs⟩:=HAD.out.setJob HJV.out (b:=b) HBJ.out (some J) HIJ.out
 obtain ⟨ws,hws⟩:∃ ws,wd.setCells gj (oj + b * 29) (jt (some J))=ws:=⟨_,rfl⟩
 rw [hws] at hAs hgs
 have hd1:RDid wd ws h F F:=RDid.of_own hgs (fun i e=> .inr (.inr (.inr (by cases e;rw [HJV.out];rfl))))
 have HBS:=qh (hd1.heap HBD2.out (fun e=>by have:=HAB.out.own_lt e;have:=HBJL.out;omega))
 have HXS:=qh (hd1.heap HXD.out (fun e=>by have:=HOL.out _ e;omega))
 have HAS:=qh hAs
 have HDS:=qh (HDD.out.trans hd1)
 refine rd 7 rfl fun K hK=>?_
 refine jfire rfl 98 97 rfl gj (oj + b * 29) (some J) rfl rfl (there_jt hjf hjc) ?_
 rw [hws]
 refine hK.out _ _ ⟨HAS.out.blk,HBS.out⟩ (fun hHeld=>?_)
 clear hK K
 try simp only [lay]
 refine wpAnyH_done (by kernel_rfl) ?_ _
 clear hHeld hws hd1 hgs hAs hjf hjc HJ2
 obtain ⟨q2,q25,q26,q27,q28⟩:=ja_at HBS.out
 by_cases hm0:J.w=0
 ·have em:(((J.w:Nat):Int) != 0)=false:=by rw [hm0];rfl
  have hmw:wo j.w n.f=0:=by rw [← HJA.out.2.1];exact hm0
  have hbj2:b < H.jb.length:=HBJ.out
  have HJO:Hid (jbOf { H with mm:=mm',jb:=H.jb.set b (some J) } b=some J):=qh (get_jbOf (by show (H.jb.set b _)[b]?=_;rw [List.getElem?_set_self hbj2]))
  cases hrr:J.r with
  | false=>
   have HE:=qh (HWY.out.2.2 (by first | exact hmw | exact hm0) (by first | exact hrr | exact trivial | rfl | (rw [← HJA.out.2.2.1];exact hrr)))
   have HAN:=qh (ranswer_any HAS.out b HBD.out J HJO.out)
   have HWL:Hid (∀ k,F.wv.ownBlock=some k→k < ws.heap.size):=qh fun k e=>HAS.out.wt.lt k e
   have HSO:Hid (∀ i,F.own h i→i < ws.heap.size):=qh fun i hi=>HAS.out.own_lt hi
   rw [hrr] at q27
   clear hm0 hmw hbj2 hrr
   go_wp2_with (go_at_call 52;((with_reducible refine HAN.out.mono ?_);rintro e w6 ⟨v6,rfl,hA6,hS6,hD6,hf6⟩;have HA6:=qh hA6;have HS6:=qh hS6;have HD6:=qh hD6;have HF6:=qh hf6;clear hA6 hS6 hD6 hf6))
   go_ret2
   rw [HE.out]
   exact ⟨F,_,rfl,HA6.out,HS6.out,HDS.out.trans HD6.out,fun k hk=>⟨Nat.le_trans HDS.out.size (HF6.out k hk),fun e=>by have h1:=HSO.out _ e;have h2:=HF6.out k hk;omega,fun e=>by have h1:=HWL.out k e;have h2:=HF6.out k hk;omega⟩⟩
  | true=>
   have HE:=qh (HWY.out.2.1 (by first | exact hmw | exact hm0) (by first | exact hrr | exact trivial | rfl | (rw [← HJA.out.2.2.1];exact hrr)))
   rw [hrr] at q27
   clear hm0 hmw hbj2 hrr
   obtain ⟨x,hx⟩:∃ x,x=bare 7 (-1) J.a.f (b:Int) J.l 0 false false:=⟨_,rfl⟩
   have hn1:=tt.na_size x
   have hn2:=tt.build_na x
   have hn3:=(tt.bare_na 7 (-1) J.a.f (b:Int) J.l 0 false false).symm
   rw [← hx] at hn3
   have HXX:=qh hx
   clear hx
   obtain ⟨i0,hi,hz0,hz1,hz2⟩:=info_parts tt.infoN
   have HFL:Hid ((fin { H with mm:=mm',jb:=H.jb.set b (some J) } b).2.length ≤ 3000000):=qh (by
    have h1:=run_len b H.wt { H with mm:=mm',jb:=(H.jb.set b (some J)).set b none } []
    have h2:(fin { H with mm:=mm',jb:=H.jb.set b (some J) } b).2.length ≤ 33 * H.wt.length:=h1
    have:=HLL.out
    omega)
   have HEN:Hid (∀ W,RefAt W h c F { H with mm:=mm',jb:=H.jb.set b (some J) }→_):=qh fun W hA=>rend_any hA b HBD.out HLL.out
   go_wp2_with (first
    | (go_at_call 49;((with_reducible refine (HEN.out _ (HAS.out.grown (grown_alloc (grown_refl _ _) _))).mono ?_);rintro e w6 ⟨F6,v6,rfl,hA6,hS6,hD6,hf6⟩;have HA6:=qh hA6;have HS6:=qh hS6;have HD6:=qh hD6;have HF6:=qh hf6;have HX6:Hid (w6.heap[ws.heap.size]?=some (.cells (na x) 45 (0,0))):=qh (hD6.heap (heap_alloc_new _ _) (fun e=>by have:=HAS.out.own_lt e;omega));have HS1:Hid (tt.Sl w6 45 24 (.slice (some ⟨ws.heap.size,0,none⟩) 1 1) 1 (flat nt [x])):=qh (nsl_one HX6.out);have HU6:Hid (¬ F6.own h ws.heap.size∧F6.wv.ownBlock ≠ some ws.heap.size):=qh ⟨fun e=>(by have:=HAS.out.own_lt ((hD6.own _).1 e);omega),fun e=>(by rcases hD6.next with e1 | e1;(rw [e1] at e;have:=HAS.out.wt.lt _ e;omega);(have:=e1 _ e;simp at this;omega))⟩;have HD7:Hid (RDid w w6 h F F6):=qh (HDS.out.trans ((RDid.of_grown h F (grown_alloc (grown_refl _ _) _)).trans hD6));clear hA6 hS6 hD6 hf6))
    | ((with_reducible refine tt.append_sl 24 45 24 i0 (.agg (na zn)) 112 _ _ Tryz.underlying24 hi hz0 hz1 hz2 tt.zn_cells (.slice (some ⟨ws.heap.size,0,none⟩) 1 1) 1 (flat nt [x]) ?_ HS1.out v6 (fin { H with mm:=mm',jb:=H.jb.set b (some J) } b).2.length (flat nt (fin { H with mm:=mm',jb:=H.jb.set b (some J) } b).2) ?_ (HS6.out.src Tryz.underlying24 (tt.nflat_one _)) ?_ ?_ ?_);(rfl);(rfl);(have:=HFL.out;unfold maxLen;omega);(have:=HFL.out;omega);(intro v7 w7 hsl7 hgr7 hnx7;have hs7:NSl w7 v7 (x :: (fin { H with mm:=mm',jb:=H.jb.set b (some J) } b).2):=(by rw [← tt.flat_append] at hsl7;show tt.Sl _ _ 24 v7 _ _;rw [show (x :: (fin { H with mm:=mm',jb:=H.jb.set b (some J) } b).2).length=1 + (fin { H with mm:=mm',jb:=H.jb.set b (some J) } b).2.length by simp;omega];exact hsl7);have HS7:=qh hs7;have HG7:=qh hgr7;have HN7:=qh hnx7;clear hs7 hsl7 hgr7 hnx7)))
   go_ret2
   rw [HE.out]
   refine ⟨F6,v7,rfl,?_,by rw [HNB.out,← HJA.out.1,← HJA.out.2.2.2,← HXX.out];exact HS7.out,HD7.out.thenNew HG7.out (fun k e=>by cases e;exact HDS.out.size),fun k hk=>?_⟩
   ·refine HA6.out.keep fun i hi ho=>HG7.out.block i hi (fun e=>?_)
    obtain rfl:i=ws.heap.size:=Option.some.inj e
    rcases ho with ho | ho | ho
    ·exact HU6.out.1 ho
    ·have hb:=HA6.out.mem.blk
     rw [← ho] at hb
     exact tyne HX6.out hb (by decide) rfl
    ·exact HU6.out.2 ho
   ·rcases HN7.out with e | e
    ·obtain rfl:ws.heap.size=k:=Option.some.inj (e.symm.trans hk)
     exact ⟨HDS.out.size,HU6.out⟩
    ·have h6:=e k hk
     exact ⟨Nat.le_trans HD7.out.size h6,fun ho=>by have:=HA6.out.own_lt ho;omega,fun hw=>by have:=HA6.out.wt.lt k hw;omega⟩
 ·have em:(((J.w:Nat):Int) != 0)=true:=by simp;omega
  have HE:=qh (HWY.out.1 (by rw [← HJA.out.2.1];exact hm0))
  go_wp2_with fail
  go_ret2
  rw [HE.out]
  exact ⟨F,_,rfl,HAS.out,tt.Sl.nil _ _ _,HDS.out,fun k hk=>by simp [Value.ownBlock] at hk⟩
end
end Go.Proofs.YtenhdijbcdkfbaaGreatDoor.hh
