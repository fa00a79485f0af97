/-
 What the landed Copy answers. Conditions: as NlA names them.
-/
import Derived.Test.YtcoimipgilkmbaaGreatDoorTl
import Derived.Test.YtcoimipgilkmbaaGreatDoorNlu
namespace Go.Proofs.YtcoimipgilkmbaaGreatDoor.nl
set_option linter.unusedVariables false
set_option linter.unusedSimpArgs false
set_option maxRecDepth 1000000
set_option maxHeartbeats 16000000
open Go Go.ChangeShapes Go.WideShapes Go.ChangeAt Go.RowKit Go.Shelf
open Go.Proofs.YtcoimipgilkmbaaGreatDoor.nr
open Go.Proofs.YtcoimipgilkmbaaGreatDoor.tt (OpX opc OpsAt cfg_at CfgAt Cfg Nt na nt zn bare zd fits row tyne lt_of U Tab TabK grown_refl grown_trans grown_alloc grown_setCells grown_drew grown_drewN yes Sl Next flat)
open Go.Proofs.YtcoimipgilkmbaaGreatDoor.kk (Ln St zl la ln cfind cdrop cuse cgoes cwrite cturn cput setAt setOf live fF Shp Cac Kept)
open Go.Proofs.YtcoimipgilkmbaaGreatDoor.bk (Bk rem kills puts putE fd fl Nd Rg dead fresh BkAt)
open Go.Proofs.YtcoimipgilkmbaaGreatDoor.mrk (Ms rdS wrS meets addE Dom MkAt)
open Go.Proofs.YtcoimipgilkmbaaGreatDoor.de (Dl sT gE rF aD LAt)
open Go.Proofs.YtcoimipgilkmbaaGreatDoor.oo (ref)
section
variable {w:World} {L:LL} {P:Pm} {k:Nr}
def lcl (P:Pm) (L:LL) (a:Nt):List Value:=[.int .i64 P.core,.int .i64 (P.N:Int),.pointer (some ⟨L.c.b,0,none⟩),.pointer (some ⟨L.bt,0,none⟩),.pointer (some ⟨L.mt,0,none⟩),.pointer (some ⟨L.dg,0,none⟩)] ++ nt a
theorem lcl_lc (P:Pm) (L:LL) (a:Nt):(lcl P L a).toArray=lc P L a:=by
 unfold lcl lc na
 simp
theorem lcl_one (P:Pm) (L:LL) (a:Nt):∀ v ∈ lcl P L a,v.oneCell'=true:=by
 intro v hv
 simp only [lcl,List.mem_append,List.mem_cons] at hv
 rcases hv with (rfl | rfl | rfl | rfl | rfl | rfl | hv) | hv
 ·rfl
 ·rfl
 ·rfl
 ·rfl
 ·rfl
 ·rfl
 ·simp at hv
 ·exact tt.nt_one a v hv
theorem infoQ:(Tryz.prog.info? 96).map (·.size)=some 30:=by kernel_rfl
theorem LN.all (h:LN w L P k):w.rangeAt L.q 0 (lcl P L (shown k)):=fun j v hv=>by
 rw [Nat.zero_add]
 exact h.cell j v (by rw [← lcl_lc,List.getElem?_toArray];exact hv)
section
variable {ops:Array Oper} {rest:List Oper} {a:Act} {Q:Exit→Act→World→Prop} {dst:Option Tmp} {ty:TypeId} {pos:String} {after:Array Edge}
theorem load_q (n:Nt) (x:Tmp) (g:Nat) (hx:a.eval (.tmp x) = .pointer (some ⟨g,0,none⟩)) (hr:w.rangeAt g 0 (lcl P L n)) (h:wpList Tryz.prog ops Q rest (a.put dst (.agg (lc P L n))) w):wpList Tryz.prog ops Q (⟨dst,.load 96 (.tmp x),ty,pos,after,none⟩ :: rest) a w:=
 wpList_load_mid rfl 96 (.tmp x) rfl g 0 hx (lcl P L n) _ hr Tryz.underlying96 rfl (by rw [← List.size_toArray,lcl_lc,lc_size];exact infoQ) (by rw [lcl_lc];exact h)
theorem store_q (n:Nt) (c:Array Value) (x y:Tmp) (hx:a.eval (.tmp x) = .pointer (some ⟨w.heap.size,0,none⟩)) (hy:a.eval (.tmp y) = .agg (lc P L n)) (hc:c.size=30)
  (h:wpList Tryz.prog ops Q rest (a.put dst undef) (w.alloc (.cells (lc P L n) 96))):wpList Tryz.prog ops Q (⟨dst,.store 96 (.tmp x) (.tmp y),ty,pos,after,none⟩ :: rest) a (w.alloc (.cells c 96)):=by
 refine wpList_store_row rfl 96 (.tmp x) (.tmp y) rfl w.heap.size (lc P L n) hx hy 96 _ (heap_alloc_new _ _) (by rw [lc_size];exact infoQ) (by rw [lc_size,hc]) (by rw [← lcl_lc];exact all_oneCell_toArray (lcl_one P L n)) ?_
 rw [World.setRow_alloc_new];exact h
end
theorem lc_sets (P:Pm) (L:LL) (a:Nt) (x y z u:Value):((((lc P L a).setIfInBounds 2 x).setIfInBounds 3 y).setIfInBounds 4 z).setIfInBounds 5 u=#[.int .i64 P.core,.int .i64 (P.N:Int),x,y,z,u] ++ na a:=by
 unfold lc
 generalize na a=n
 rw [Array.setIfInBounds_append_left (by simp),Array.setIfInBounds_append_left (by simp),Array.setIfInBounds_append_left (by simp),Array.setIfInBounds_append_left (by simp)]
 rfl
structure Cn (w W:World) (L:LL) (P:Pm) (k:Nr) (cs:Array Value):Prop where
 old:w.grownBy W none
 ln:LN W L P k
 q:W.heap[w.heap.size]?=some (.cells cs 96 (0,0))
theorem Cn.cells {W:World} {cs:Array Value} (m:Cn w W L P k cs):W.cell? ⟨L.q,2,none⟩=some (.pointer (some ⟨L.c.b,0,none⟩))∧W.cell? ⟨L.q,3,none⟩=some (.pointer (some ⟨L.bt,0,none⟩))∧W.cell? ⟨L.q,4,none⟩=some (.pointer (some ⟨L.mt,0,none⟩))∧W.cell? ⟨L.q,5,none⟩=some (.pointer (some ⟨L.dg,0,none⟩)):=⟨m.ln.c2,m.ln.c3,m.ln.c4,m.ln.c5⟩
theorem Cn.grown {W W':World} {cs:Array Value} (m:Cn w W L P k cs) (hg:W.grownBy W' none):Cn w W' L P k cs:=⟨grown_trans m.old hg,m.ln.grown hg,(hg.block _ (lt_of m.q) (by simp)).trans m.q⟩
theorem Cn.set {W:World} {cs:Array Value} (m:Cn w W L P k cs) (hw:LN w L P k) (i:Nat) (v:Value):Cn w (W.setCell ⟨w.heap.size,i,none⟩ v) L P k (cs.setIfInBounds i v):=by
 have hg:=kk.grown_setCell W w.heap.size i v
 have hold:w.grownBy (W.setCell ⟨w.heap.size,i,none⟩ v) none:=tt.grown_new m.old (Nat.le_refl _) hg
 refine ⟨hold,hw.grown hold,?_⟩
 obtain ⟨hlt,hk⟩:=Array.getElem?_eq_some_iff.1 m.q
 show (W.heap.modify w.heap.size _)[w.heap.size]?=_
 rw [Array.getElem?_eq_getElem (by rw [Array.size_modify];exact hlt),Array.getElem_modify_self,hk]
 rfl
theorem Cn.old' {W:World} {cs:Array Value} (m:Cn w W L P k cs) (i:Nat) (hi:i < cs.size):(∃ v,W.cell? ⟨w.heap.size,i,none⟩=some v)∧W.frozen? ⟨w.heap.size,i,none⟩=false:=
 ⟨⟨_,(cell_of_row _ _ _ _ _ _ m.q).trans (Array.getElem?_eq_getElem hi)⟩,frozen_of_row _ _ _ _ _ m.q⟩
theorem copy_any (h:LN w L P k):Calls Tryz.prog 25 #[.pointer (some ⟨L.q,0,none⟩)] w fun e w'=>∃ L':LL,e = .returned (.pointer (some ⟨L'.q,0,none⟩))∧LN w' L' P k∧w.grownBy w' none∧∀ g,L'.any g→w.heap.size ≤ g:=by
 have HA:=qh h.all
 have HN:=qh h
 have M0:Hid (Cn w (w.alloc (.cells (lc P L (shown k)) 96)).drew L P k (lc P L (shown k))):=qh ⟨grown_drew (grown_alloc (grown_refl _ _) _),h.grown (grown_drew (grown_alloc (grown_refl _ _) _)),heap_alloc_new _ _⟩
 clear h
 go_enter Tryz.func25,Tryz.ntmps25
 go_upto_region 4 with (first
  | ((with_reducible refine load_q (P:=P) (L:=L) (shown k) _ _ ?_ HA.out ?_);((rfl)))
  | ((with_reducible refine store_q (P:=P) (L:=L) (shown k) _ _ _ ?_ ?_ ?_ ?_);((rfl));((rfl));((rfl))))
 have HC0:=qh M0.out.cells
 obtain ⟨W0,hW0⟩:∃ x,(w.alloc (.cells (lc P L (shown k)) 96)).drew=x:=⟨_,rfl⟩
 refine wp_region_held_drew (S:=fun W=>W.cell? ⟨L.q,2,none⟩=some (.pointer (some ⟨L.c.b,0,none⟩))∧W.cell? ⟨L.q,3,none⟩=some (.pointer (some ⟨L.bt,0,none⟩))∧W.cell? ⟨L.q,4,none⟩=some (.pointer (some ⟨L.mt,0,none⟩))∧W.cell? ⟨L.q,5,none⟩=some (.pointer (some ⟨L.dg,0,none⟩))) (by kernel_rfl) HC0.out (fun hHeld=>?_)
 have HZ0:Hid (W0.heap.size=w.heap.size + 1):=qh (by rw [← hW0];simp [World.drew])
 rw [hW0] at M0 hHeld ⊢
 clear HC0 hW0
 refine tl 0 ?_ rfl ?_ ?_ (tl 1 ?_ rfl ?_ ?_ (tl 2 ?_ rfl ?_ ?_ (tl 3 ?_ rfl ?_ ?_ (tl 5 ?_ rfl ?_ ?_ (tl 6 ?_ rfl ?_ ?_ (tl 7 ?_ rfl ?_ ?_ (tl 8 ?_ rfl ?_ ?_ ?_)))))))
 iterate 8 (rotate_left;(next=>(try simp only [lay]);((intro w0 hSw;obtain ⟨hs1,hs2,hs3,hs4⟩:=hSw;go_simp);try (with_reducible rfl)));next=>rfl)
 try simp only [lay]
 refine tl 10 ?_ rfl ?_ ?_ (tl 11 ?_ rfl ?_ ?_ (tl 12 ?_ rfl ?_ ?_ (tl 13 ?_ rfl ?_ ?_ (tl 15 ?_ rfl ?_ ?_ (tl 16 ?_ rfl ?_ ?_ (tl 17 ?_ rfl ?_ ?_ (tl 18 ?_ rfl ?_ ?_ ?_)))))))
 iterate 8 (rotate_left;(next=>(try simp only [lay]);((intro w0 hSw;obtain ⟨hs1,hs2,hs3,hs4⟩:=hSw;go_simp);try (with_reducible rfl)));next=>rfl)
 try simp only [lay]
 refine rd 4 rfl fun K hK=>?_
 go_simp
 (with_reducible refine (kk.copy_any L.c P.c k.ss W0 M0.out.ln.ca).mono ?_);rintro e w1 ⟨C1,rfl,hc1,hg1,ha1⟩
 have M1:=qh (M0.out.grown hg1);have HA1:=qh ha1;have HC1:=qh hc1;have HG1:=qh hg1;clear hc1 hg1 ha1
 go_wp2_with fail
 refine hK.out _ _ (M1.out.cells) (fun hHeld=>?_)
 clear hK K
 try simp only [lay]
 refine rd 9 rfl fun K hK=>?_
 go_simp
 (with_reducible refine (bk.copy_any _ _ _ _ _ _ _ M1.out.ln.ba).mono ?_);rintro e w2 ⟨bt,bp,bv,rfl,hb2,h21,h22,h23,hg2⟩
 have M2:=qh (M1.out.grown hg2);have HB2:=qh hb2;have HA2:=qh (And.intro h21 (And.intro h22 h23));have HG2:=qh hg2;clear hb2 h21 h22 h23 hg2
 go_wp2_with fail
 refine hK.out _ _ (M2.out.cells) (fun hHeld=>?_)
 clear hK K
 try simp only [lay]
 refine rd 14 rfl fun K hK=>?_
 go_simp
 (with_reducible refine (mrk.copy_any M2.out.ln.mr).mono ?_);rintro e w3 ⟨mt,mb,rfl,hm3,h31,h32,hg3⟩
 have M3:=qh (M2.out.grown hg3);have HM3:=qh hm3;have HA3:=qh (And.intro h31 h32);have HG3:=qh hg3;clear hm3 h31 h32 hg3
 go_wp2_with fail
 refine hK.out _ _ (M3.out.cells) (fun hHeld=>?_)
 clear hK K
 try simp only [lay]
 refine rd 19 rfl fun K hK=>?_
 go_simp
 (with_reducible refine (de.copy_any M3.out.ln.dl).mono ?_);rintro e w4 ⟨rfl,hd4,hg4⟩
 have M4:=qh (M3.out.grown hg4);have HD4:=qh hd4;have HG4:=qh hg4;clear hd4 hg4
 go_wp2_with fail
 refine hK.out _ _ (M4.out.cells) (fun hHeld=>?_)
 clear hK K
 try simp only [lay]
 obtain ⟨⟨u0,hu0⟩,hf0⟩:=M4.out.old' 2 (by simp [lc_size])
 have M5:=qh (M4.out.set HN.out 2 (.pointer (some ⟨C1.b,0,none⟩)))
 refine tl 20 ?_ rfl ?_ ?_ ?_
 (rotate_left;(next=>((intro w0 hSw;go_simp);try (with_reducible rfl)));next=>rfl)
 try simp only [lay]
 refine rd 21 rfl fun K hK=>?_
 go_simp
 refine hK.out _ _ (M5.out.cells) (fun hHeld=>?_)
 clear hK K
 try simp only [lay]
 obtain ⟨⟨u1,hu1⟩,hf1⟩:=M5.out.old' 3 (by simp [lc_size])
 have M6:=qh (M5.out.set HN.out 3 (.pointer (some ⟨bt,0,none⟩)))
 refine tl 22 ?_ rfl ?_ ?_ ?_
 (rotate_left;(next=>((intro w0 hSw;go_simp);try (with_reducible rfl)));next=>rfl)
 try simp only [lay]
 refine rd 23 rfl fun K hK=>?_
 go_simp
 refine hK.out _ _ (M6.out.cells) (fun hHeld=>?_)
 clear hK K
 try simp only [lay]
 obtain ⟨⟨u2,hu2⟩,hf2⟩:=M6.out.old' 4 (by simp [lc_size])
 have M7:=qh (M6.out.set HN.out 4 (.pointer (some ⟨mt,0,none⟩)))
 refine tl 24 ?_ rfl ?_ ?_ ?_
 (rotate_left;(next=>((intro w0 hSw;go_simp);try (with_reducible rfl)));next=>rfl)
 try simp only [lay]
 refine rd 25 rfl fun K hK=>?_
 go_simp
 refine hK.out _ _ (M7.out.cells) (fun hHeld=>?_)
 clear hK K
 try simp only [lay]
 obtain ⟨⟨u3,hu3⟩,hf3⟩:=M7.out.old' 5 (by simp [lc_size])
 have M8:=qh (M7.out.set HN.out 5 (.pointer (some ⟨w3.heap.size,0,none⟩)))
 refine tl 26 ?_ rfl ?_ ?_ ?_
 (rotate_left;(next=>((intro w0 hSw;go_simp);try (with_reducible rfl)));next=>rfl)
 try simp only [lay]
 refine rd 27 rfl fun K hK=>?_
 go_simp
 refine hK.out _ _ (M8.out.cells) (fun hHeld=>?_)
 clear hK K
 try simp only [lay]
 refine wpAnyH_done (by kernel_rfl) ?_ _
 go_wp2_with fail
 go_ret
 obtain ⟨Q,hQ⟩:∃ x,w.heap.size=x:=⟨_,rfl⟩
 have g5:=kk.grown_setCell w4 Q 2 (.pointer (some ⟨C1.b,0,none⟩))
 have g6:=kk.grown_setCell (w4.setCell ⟨Q,2,none⟩ (.pointer (some ⟨C1.b,0,none⟩))) Q 3 (.pointer (some ⟨bt,0,none⟩))
 have g7:=kk.grown_setCell ((w4.setCell ⟨Q,2,none⟩ (.pointer (some ⟨C1.b,0,none⟩))).setCell ⟨Q,3,none⟩ (.pointer (some ⟨bt,0,none⟩))) Q 4 (.pointer (some ⟨mt,0,none⟩))
 have g8:=kk.grown_setCell (((w4.setCell ⟨Q,2,none⟩ (.pointer (some ⟨C1.b,0,none⟩))).setCell ⟨Q,3,none⟩ (.pointer (some ⟨bt,0,none⟩))).setCell ⟨Q,4,none⟩ (.pointer (some ⟨mt,0,none⟩))) Q 5 (.pointer (some ⟨w3.heap.size,0,none⟩))
 have m8:=M8.out
 rw [hQ] at m8 ⊢
 obtain ⟨W8,hW8⟩:∃ x,((((w4.setCell ⟨Q,2,none⟩ (.pointer (some ⟨C1.b,0,none⟩))).setCell ⟨Q,3,none⟩ (.pointer (some ⟨bt,0,none⟩))).setCell ⟨Q,4,none⟩ (.pointer (some ⟨mt,0,none⟩))).setCell ⟨Q,5,none⟩ (.pointer (some ⟨w3.heap.size,0,none⟩)))=x:=⟨_,rfl⟩
 rw [hW8] at g8 m8 ⊢
 have G4:w4.grownBy W8 (some Q):=grown_trans g5 (grown_trans g6 (grown_trans g7 g8))
 have G3:w3.grownBy W8 (some Q):=grown_trans (de.grown_to HG4.out) G4
 have G2:w2.grownBy W8 (some Q):=grown_trans (de.grown_to HG3.out) G3
 have G1:w1.grownBy W8 (some Q):=grown_trans (de.grown_to HG2.out) G2
 have s0:=HZ0.out
 have s1:=HG1.out.size
 have s2:=HG2.out.size
 have s3:=HG3.out.size
 obtain ⟨a1,a2,a3⟩:=HA2.out
 obtain ⟨a4,a5⟩:=HA3.out
 have hany:∀ g,LL.any ⟨Q,C1,bt,bp,bv,mt,mb,w3.heap.size⟩ g→Q ≤ g:=by
  rintro g (h | hc | (h | h | hv) | (h | h) | h)
  ·have h:g=Q:=h
   omega
  ·have:=HA1.out g hc;omega
  ·have h:g=bt:=h
   omega
  ·have h:g=bp:=h
   omega
  ·have:=a3 g hv;omega
  ·have h:g=mt:=h
   omega
  ·have h:g=mb:=h
   omega
  ·have h:g=w3.heap.size:=h
   omega
 have hnQ:∀ g,Q < g→some g ≠ some Q:=fun g hg=>by simp;omega
 have hlb:=HN.out.tb.lb
 have hlk:=HN.out.tb.lk
 rw [hQ] at hlb hlk
 refine ⟨⟨Q,C1,bt,bp,bv,mt,mb,w3.heap.size⟩,rfl,⟨?_,HC1.out.same fun g hg=>G1.block g (HC1.out.lt hg) (hnQ g (by have:=HA1.out g hg;omega)),HB2.out.of_block (G2.block _ HB2.out.lt (hnQ _ (by omega))) (G2.block _ HB2.out.pool.lt (hnQ _ (by omega))) (fun g hh=>G2.block g ?_ (hnQ _ (by have:=a3 g hh;omega))),HM3.out.of_block (G3.block _ HM3.out.lt (hnQ _ (by omega))) (G3.block _ HM3.out.map.lt (hnQ _ (by omega))),HD4.out.same (G4.block _ HD4.out.lt (hnQ _ (by omega))),m8.ln.tb,fun g hg=>by have:=hany g hg;omega⟩,m8.old,hany⟩
 ·have hq:=m8.q
  rw [hQ] at hq
  refine hq.trans ?_
  rw [lc_sets]
  rfl
 ·obtain ⟨_,h1⟩:=HB2.out.pool.sl.type _ hh
  exact lt_of h1
end
end Go.Proofs.YtcoimipgilkmbaaGreatDoor.nl
