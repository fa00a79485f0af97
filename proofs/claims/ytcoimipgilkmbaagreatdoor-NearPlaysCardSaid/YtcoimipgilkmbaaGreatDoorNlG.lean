/-
 What goes back: a contract. Conditions: as NlA names them.
-/
import Derived.Test.YtcoimipgilkmbaaGreatDoorTl
import Derived.Test.YtcoimipgilkmbaaGreatDoorNlF
namespace Go.Proofs.YtcoimipgilkmbaaGreatDoor.nl
set_option linter.unusedVariables false
set_option linter.unusedSimpArgs false
set_option maxRecDepth 1000000
set_option maxHeartbeats 16000000
open Go Go.ChangeShapes Go.WideShapes Go.ChangeAt Go.RowKit Go.Shelf
open Go.Proofs.YtcoimipgilkmbaaGreatDoor.nr
open Go.Proofs.YtcoimipgilkmbaaGreatDoor.tt (Cfg Nt na nt zn bare zd fits row tyne lt_of U Tab TabK grown_refl grown_trans grown_alloc grown_setCells grown_drew grown_drewN yes)
open Go.Proofs.YtcoimipgilkmbaaGreatDoor.kk (Ln St zl la ln cfind cdrop cuse cgoes cwrite cturn cput setAt setOf live fF Shp Cac Kept)
open Go.Proofs.YtcoimipgilkmbaaGreatDoor.bk (Bk rem kills puts putE fd fl Nd Rg dead fresh BkAt)
open Go.Proofs.YtcoimipgilkmbaaGreatDoor.mrk (Ms rdS wrS meets addE Dom MkAt)
open Go.Proofs.YtcoimipgilkmbaaGreatDoor.de (Dl sT gE rF aD LAt)
open Go.Proofs.YtcoimipgilkmbaaGreatDoor.oo (ref)
theorem set_h {W:World} {g:Nat} {o:Nt} (h:W.heap[g]?=some (on o)) (x:Bool):(W.setCell ⟨g,6,none⟩ (.bool x)).heap[g]?=some (on { o with h:=x }):=by
 obtain ⟨hlt,hk⟩:=Array.getElem?_eq_some_iff.1 h
 show (W.heap.modify g _)[g]?=_
 rw [Array.getElem?_eq_getElem (by rw [Array.size_modify];exact hlt),Array.getElem_modify_self,hk]
 simp [on,na,nt]
theorem set_q {W:World} {g:Nat} {o:Nt} (h:W.heap[g]?=some (on o)) (x:Bool):(W.setCell ⟨g,7,none⟩ (.bool x)).heap[g]?=some (on { o with q:=x }):=by
 obtain ⟨hlt,hk⟩:=Array.getElem?_eq_some_iff.1 h
 show (W.heap.modify g _)[g]?=_
 rw [Array.getElem?_eq_getElem (by rw [Array.size_modify];exact hlt),Array.getElem_modify_self,hk]
 simp [on,na,nt]
theorem set_st {W:World} {g:Nat} {o:Nt} (h:W.heap[g]?=some (on o)) (x:Int):(W.setCell ⟨g,4,none⟩ (.int .u64 x)).heap[g]?=some (on { o with st:=x }):=by
 obtain ⟨hlt,hk⟩:=Array.getElem?_eq_some_iff.1 h
 show (W.heap.modify g _)[g]?=_
 rw [Array.getElem?_eq_getElem (by rw [Array.size_modify];exact hlt),Array.getElem_modify_self,hk]
 simp [on,na,nt]
theorem set_d {W:World} {g:Nat} {o:Nt} (h:W.heap[g]?=some (on o)) (d:List Int) (hd:d.length=16):(W.setCells g 8 (d.map U)).heap[g]?=some (on { o with d:=d,hd:=hd }):=by
 obtain ⟨cur,h1,h2,h3,h4⟩:=tt.heap_setCells g 37 (d.map U) 8 W (na o) h (by rw [tt.na_size,List.length_map];omega)
 rw [h1]
 have:cur=na { o with d:=d,hd:=hd }:=by
  apply Array.ext
  ·rw [h2,tt.na_size,tt.na_size]
  ·intro i hi hi2
   rw [tt.na_size] at hi2
   have e:cur[i]?=(na { o with d:=d,hd:=hd })[i]?:=by
    by_cases h8:i < 8
    ·rw [h3 i (.inl h8)]
     match i,h8 with
     | 0,_ | 1,_ | 2,_ | 3,_ | 4,_ | 5,_ | 6,_ | 7,_=>rfl
    ·obtain ⟨v,hv⟩:∃ v,(d.map U)[i - 8]?=some v:=⟨_,List.getElem?_eq_getElem (by rw [List.length_map];omega)⟩
     have:=h4 (i - 8) _ hv
     rw [show 8 + (i - 8)=i by omega] at this
     rw [this,← hv,na,List.getElem?_toArray,nt,show i=(i - 8) + 8 by omega]
     simp only [List.getElem?_cons_succ,Nat.add_sub_cancel]
   rw [Array.getElem?_eq_getElem hi,Array.getElem?_eq_getElem (by rw [tt.na_size];exact hi2)] at e
   exact Option.some.inj e
 rw [this]
section
variable {w:World} {L:LL} {P:Pm} {k:Nr} (h:LN w L P k)
include h
theorem back_any (l:Ln):Calls Tryz.prog 93 #[.pointer (some ⟨L.q,0,none⟩),.agg (la l)] w fun e w'=>e = .returned (.agg (na (putN P k l)))∧∃ v,LN w' { L with bv:=v } P { k with ss:=(cdrop P.c k.ss l.b).1,bs:=puts P.N P.m k.bs l.b l.d l.h }∧Mv w w' L v:=by
 have m0:=((Mil.of h).alloc (la l) 50).alloc (na zn) 37
 obtain ⟨W0,hW0⟩:∃ W,(w.alloc (.cells (la l) 50)).alloc (.cells (na zn) 37)=W:=⟨_,rfl⟩
 rw [hW0] at m0
 have hsz:(w.alloc (.cells (la l) 50)).heap.size=w.heap.size + 1:=by simp
 rw [hsz] at m0
 rw [zn_na] at hW0
 obtain ⟨A,hA⟩:∃ A,w.heap.size=A:=⟨_,rfl⟩
 rw [hA] at m0
 have M0:=qh m0
 have M0d:=qh m0.drew
 have p2:=m0.c2
 have p0:=m0.cellL (.tail _ (.head _)) 0 _ rfl
 obtain ⟨r,hr⟩:∃ r,k.ms.r l.b=r:=⟨_,rfl⟩
 obtain ⟨u,hu⟩:∃ r,k.ms.w l.b=r:=⟨_,rfl⟩
 have hany:k.ms.any l.b=(r || u):=by unfold Ms.any;rw [hr,hu]
 have HH:Hid (∀ (W:World) v B,Mil w W L v P { k with ss:=(cdrop P.c k.ss l.b).1,bs:=puts P.N P.m k.bs l.b l.d l.h } B→Calls Tryz.prog 79 #[.pointer (some ⟨L.mt,0,none⟩),.int .i64 l.b] W fun e W'=>e = .returned (.tuple #[.bool r,.bool u])∧W=W'):=qh fun W v B mm=>by
  have:=mm.has l.b
  rw [show ({ k with ss:=(cdrop P.c k.ss l.b).1,bs:=puts P.N P.m k.bs l.b l.d l.h }:Nr).ms=k.ms from rfl,hr,hu] at this
  exact this
 have hput:putN P k l=⟨3,P.core,-1,l.b,0,0,true,r || u,l.d,l.h⟩:=by unfold putN;rw [hany]
 rw [hput]
 obtain ⟨n0,hn0⟩:∃ n,bare 3 P.core (-1) l.b 0 0 false false=n:=⟨_,rfl⟩
 have HN0:=qh hn0
 clear h m0 hr hu hany hput hsz hn0
 go_enter Tryz.func93,Tryz.ntmps93
 go_upto_region 1 with fail
 go_still_tail 6,(by kernel_rfl)
 change wpList _ _ _ _ _ W0.drew
 go_upto_region 2 with (first
  | (go_at_call 91;((with_reducible refine (M0d.out.drop l.b).mono ?_);rintro e w1 ⟨rfl,hm1⟩;have M1:=qh hm1;have M1d:=qh hm1.drew;have q3:=hm1.c3;have q0:=hm1.cellL (.tail _ (.head _)) 0 _ rfl;have qd:=hm1.rangeD (.tail _ (.head _));clear hm1)))
 obtain ⟨t,nn,HT,hagg,hsize,hld,hszb,hst⟩:=bk.named29
 have hld2:=hld A 2 l.d l.h
 have hld1:=hld2 w1 qd
 have hld1d:=hld2 w1.drew qd
 rw [HT.out.1]
 go_still_tail 8,(by kernel_rfl)
 change wpList _ _ _ _ _ w1.drew
 go_upto_region 3 with (first
  | (go_at_call 129;((with_reducible refine (M1d.out.bput l.b l.d l.h).mono ?_);rintro e w2 ⟨rfl,v2,hm2⟩;have M2:=qh hm2;have M2d:=qh hm2.drew;have s4:=hm2.c4;have s0:=hm2.cellL (.tail _ (.head _)) 0 _ rfl;clear hm2)))
 have HQ:=qh fun n=>HH.out _ _ _ (M2.out.grown (grown_drewN (grown_refl _ _) n))
 go_quiet (first
  | (go_at_call 79;exact Calls.quiet_of_same ((HQ.out _).mono fun _ _ he=>⟨he.1,he.2.symm⟩)))
 have HMN:Hid (∀ n,Mil w (w2.drewN n) L v2 P _ _):=qh fun n=>M2.out.grown (grown_drewN (grown_refl _ _) n)
 have HHO:=qh fun n=>home_any (HMN.out n).ln 3 l.b
 rw [HN0.out] at HHO
 have HB4:Hid (∀ W:World,(W.alloc (.cells (na zn) 37)).heap[W.heap.size]?=some (.cells (na zn) 37 (0,0))):=qh fun W=>heap_alloc_new _ _
 have HM4:Hid (∀ W v2 k B,Mil w W L v2 P k B→Mil w ((W.alloc (.cells (na zn) 37)).setRow W.heap.size (na n0)) L v2 P k ((W.heap.size,on n0) :: B)):=qh fun W v2 k B mm=>mm.varN n0
 rw [zn_na] at HB4 HM4
 go_upto_region 5 with (first
  | (go_at_call 94;((with_reducible refine (HHO.out _).mono ?_);rintro e w3 ⟨rfl,hg3⟩;have M4:=qh (HM4.out _ _ _ _ ((HMN.out _).grown hg3));clear hg3))
  | ((with_reducible refine tt.store_any n0 (na zn) 7 37 w3.heap.size ?_ ?_ ?_ ?_ ?_);((rfl));((rfl));((exact HB4.out _));((rfl))))
 obtain ⟨w4,hw4⟩:∃ x,(w3.alloc (.cells (na zn) 37)).setRow w3.heap.size (na n0)=x:=⟨_,rfl⟩
 rw [zn_na] at hw4
 rw [hw4] at M4 ⊢
 obtain ⟨G,hG⟩:∃ x,w3.heap.size=x:=⟨_,rfl⟩
 rw [hG] at M4 ⊢
 have M5:=qh M4.out.drew
 have hr0:=M5.out.rangeD (.tail _ (.tail _ (.head _)))
 have M6:Hid (Mil w (w4.setCell ⟨G,6,none⟩ (.bool true)).drew L v2 P _ _):=qh (M5.out.put (i:=0) rfl (kk.grown_setCell w4.drew G 6 (.bool true)) (set_h (M5.out.hs _ (.head _)) true))
 have M7:=qh (M6.out.put (i:=0) rfl (grown_setCells (w4.setCell ⟨G,6,none⟩ (.bool true)).drew G 8 (l.d.map U)) (set_d (M6.out.hs _ (.head _)) l.d l.h))
 have M8:Hid (Mil w (((w4.setCell ⟨G,6,none⟩ (.bool true)).drew.setCells G 8 (l.d.map U)).setCell ⟨G,7,none⟩ (.bool (r || u))) L v2 P _ [(G,on ⟨n0.k,n0.f,n0.t,n0.b,n0.st,n0.s,true,r || u,l.d,l.h⟩),(A + 1,on zn),(A,ol l)]):=qh (M7.out.put (i:=0) rfl (kk.grown_setCell ((w4.setCell ⟨G,6,none⟩ (.bool true)).drew.setCells G 8 (l.d.map U)) G 7 (.bool (r || u))) (set_q (M7.out.hs _ (.head _)) (r || u)))
 obtain ⟨n3,hn3⟩:∃ n:Nt,(⟨n0.k,n0.f,n0.t,n0.b,n0.st,n0.s,true,r || u,l.d,l.h⟩:Nt)=n:=⟨_,rfl⟩
 rw [hn3] at M8
 have HR0:=qh hr0
 have HR1:=qh (M6.out.rangeD (.tail _ (.tail _ (.head _))))
 have HR2:=qh (M7.out.rangeD (.tail _ (.tail _ (.head _))))
 have HR3:=qh (M8.out.rangeD (.tail _ (.tail _ (.head _))))
 have q6:=M5.out.cellN (.head _) 6 _ rfl
 have f6:w4.drew.frozen? ⟨G,6,none⟩=false:=frozen_of_row _ _ _ _ _ (M5.out.hs _ (.head _))
 have q7:((w4.setCell ⟨G,6,none⟩ (.bool true)).drew.setCells G 8 (l.d.map U)).cell? ⟨G,7,none⟩=some (.bool n0.q):=M7.out.cellN (.head _) 7 _ rfl
 have f7:((w4.setCell ⟨G,6,none⟩ (.bool true)).drew.setCells G 8 (l.d.map U)).frozen? ⟨G,7,none⟩=false:=frozen_of_row _ _ _ _ _ (M7.out.hs _ (.head _))
 have hst2:=hst G 8 l.d l.h _ (there_from (M6.out.hs _ (.head _)) (n:=16) (by rw [tt.na_size];decide))
 have hsz2:=hszb l.d l.h
 rw [HT.out.1,HT.out.2]
 clear hld hszb hst hr0 hld1 hld1d hw4 hG p2 p0 q3 q0 s4 s0
 cases r
 ·simp only [Bool.false_or] at *
  refine wp_region_held_drew (S:=fun w'=>w'.rangeAt A 2 (l.d.map U)) (by kernel_rfl) HR0.out (fun hHeld=>?_)
  refine tl 0 ?_ rfl ?_ ?_ (tl 1 ?_ rfl ?_ ?_ (tl 2 ?_ rfl ?_ ?_ (tl 3 ?_ rfl ?_ ?_ (tl 4 ?_ rfl ?_ ?_ (tl 5 ?_ rfl ?_ ?_ (tl 6 ?_ rfl ?_ ?_ ?_))))))
  iterate 7 (rotate_left;(next=>(try simp only [lay]);((intro w0 hSw;have hl0:=hld2 _ hSw;go_simp);try (with_reducible rfl)));next=>rfl)
  try simp only [lay]
  refine rd 7 rfl fun K hK=>?_
  go_simp
  refine hK.out _ _ HR1.out (fun hHeld7=>?_)
  clear hK K
  try simp only [lay]
  refine tl 8 ?_ rfl ?_ ?_ ?_
  (rotate_left;(next=>((intro w0 hSw;go_simp);try (with_reducible rfl)));next=>rfl)
  try simp only [lay]
  refine rd 9 rfl fun K hK=>?_
  go_simp
  refine hK.out _ _ HR2.out (fun hHeld9=>?_)
  clear hK K
  try simp only [lay]
  refine tl 10 ?_ rfl ?_ ?_ ?_
  (rotate_left;(next=>((intro w0 hSw;go_simp);try (with_reducible rfl)));next=>rfl)
  try simp only [lay]
  refine rd 11 rfl fun K hK=>?_
  go_simp
  refine hK.out _ _ HR3.out (fun hHeld11=>?_)
  clear hK K
  try simp only [lay]
  refine wpAnyH_done (by kernel_rfl) ?_ _
  have rN:=M8.out.rangeN (.head _)
  have b1:=M8.out.hs _ (.tail _ (.head _))
  go_wp2_with (first
   | ((with_reducible refine tt.load_nt n3 7 G ?_ rN ?_);((rfl)))
   | ((with_reducible refine tt.store_any n3 (na zn) 4 47 (A + 1) ?_ ?_ b1 ?_ ?_);((rfl));((rfl));((rfl))))
  have M9:=M8.out.put (i:=1) rfl (grown_row (grown_refl _ _) (A + 1) (na n3)) (setRow_heap _ _ _ _ _ _ (M8.out.hs _ (.tail _ (.head _))))
  refine ret_nt1 rfl (x:=n3) (g:=A + 1) rfl (M9.hs _ (.tail _ (.head _))) ?_
  refine ⟨?_,v2,M9.ln,M9.mv⟩
  rw [← hn3,← HN0.out]
  rfl
 ·simp only [Bool.true_or] at *
  refine wp_region_held_drew (S:=fun w'=>w'.rangeAt A 2 (l.d.map U)) (by kernel_rfl) HR0.out (fun hHeld=>?_)
  refine tl 0 ?_ rfl ?_ ?_ (tl 1 ?_ rfl ?_ ?_ (tl 2 ?_ rfl ?_ ?_ (tl 3 ?_ rfl ?_ ?_ ?_)))
  iterate 4 (rotate_left;(next=>(try simp only [lay]);((intro w0 hSw;have hl0:=hld2 _ hSw;go_simp);try (with_reducible rfl)));next=>rfl)
  try simp only [lay]
  refine tu 4 rfl ?_
  try simp only [lay]
  refine tl 5 ?_ rfl ?_ ?_ (tl 6 ?_ rfl ?_ ?_ ?_)
  iterate 2 (rotate_left;(next=>(try simp only [lay]);((intro w0 hSw;have hl0:=hld2 _ hSw;go_simp);try (with_reducible rfl)));next=>rfl)
  try simp only [lay]
  refine rd 7 rfl fun K hK=>?_
  go_simp
  refine hK.out _ _ HR1.out (fun hHeld7=>?_)
  clear hK K
  try simp only [lay]
  refine tl 8 ?_ rfl ?_ ?_ ?_
  (rotate_left;(next=>((intro w0 hSw;go_simp);try (with_reducible rfl)));next=>rfl)
  try simp only [lay]
  refine rd 9 rfl fun K hK=>?_
  go_simp
  refine hK.out _ _ HR2.out (fun hHeld9=>?_)
  clear hK K
  try simp only [lay]
  refine tl 10 ?_ rfl ?_ ?_ ?_
  (rotate_left;(next=>((intro w0 hSw;go_simp);try (with_reducible rfl)));next=>rfl)
  try simp only [lay]
  refine rd 11 rfl fun K hK=>?_
  go_simp
  refine hK.out _ _ HR3.out (fun hHeld11=>?_)
  clear hK K
  try simp only [lay]
  refine wpAnyH_done (by kernel_rfl) ?_ _
  have rN:=M8.out.rangeN (.head _)
  have b1:=M8.out.hs _ (.tail _ (.head _))
  go_wp2_with (first
   | ((with_reducible refine tt.load_nt n3 7 G ?_ rN ?_);((rfl)))
   | ((with_reducible refine tt.store_any n3 (na zn) 4 47 (A + 1) ?_ ?_ b1 ?_ ?_);((rfl));((rfl));((rfl))))
  have M9:=M8.out.put (i:=1) rfl (grown_row (grown_refl _ _) (A + 1) (na n3)) (setRow_heap _ _ _ _ _ _ (M8.out.hs _ (.tail _ (.head _))))
  refine ret_nt1 rfl (x:=n3) (g:=A + 1) rfl (M9.hs _ (.tail _ (.head _))) ?_
  refine ⟨?_,v2,M9.ln,M9.mv⟩
  rw [← hn3,← HN0.out]
  rfl
end
end Go.Proofs.YtcoimipgilkmbaaGreatDoor.nl
