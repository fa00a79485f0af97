/-
 What the document's New answers. Conditions: none but what each theorem names.
-/
import Derived.Test.YtcoimipgilkmbaaGreatDoorTl
import Derived.Test.YtcoimipgilkmbaaGreatDoorNrI
namespace Go.Proofs.YtcoimipgilkmbaaGreatDoor.nr
set_option linter.unusedVariables false
set_option linter.unusedSimpArgs false
set_option maxRecDepth 1000000
set_option maxHeartbeats 16000000
open Go Go.ChangeShapes Go.WideShapes Go.ChangeAt Go.RowKit Go.Shelf
open Go.Proofs.YtcoimipgilkmbaaGreatDoor.tt (Cfg Nt na nt zn bare zd fits row tyne lt_of U grown_refl grown_alloc grown_trans grown_new grown_setCells grown_drew grown_drewN)
open Go.Proofs.YtcoimipgilkmbaaGreatDoor.kk (Ln St zl la ln cfind cdrop cuse cgoes cwrite cturn cput setAt setOf live fF Shp Rac Kept)
open Go.Proofs.YtcoimipgilkmbaaGreatDoor.bk (Bk rem kills puts putE fd fl Nd Rg dead fresh)
open Go.Proofs.YtcoimipgilkmbaaGreatDoor.mrk (Ms rdS wrS meets addE Dom)
open Go.Proofs.YtcoimipgilkmbaaGreatDoor.de (Dl sT gE rF aD)
open Go.Proofs.YtcoimipgilkmbaaGreatDoor.oo (ref)
theorem namedC:∃ (t:TypeId) (m:Nat),Hid (Op.load 27=Op.load t)∧(∀ w,(isAgg t).run Tryz.prog w = .ok true w)∧(∀ w,(sizeOf t).run Tryz.prog w = .ok m w) ∧
  ∀ (g:Nat) (c:Cfg) (w:World),tt.CfgAt w g c→(loadCellsFrom ⟨g,0,none⟩ 0 m #[]).run Tryz.prog w = .ok c.cells w:=
 ⟨27,8,qh rfl,Tryz.isAgg27,Tryz.sizeOf27,fun g c w h=>by
  have hr:w.rangeAt g 0 c.cells.toList:=fun j v hv=>by
   obtain ⟨c0,c1,c2,c3,c4,c5,c6,c7⟩:=h
   rw [Nat.zero_add]
   match j,hv with
   | 0,hv=>cases hv;exact c0
   | 1,hv=>cases hv;exact c1
   | 2,hv=>cases hv;exact c2
   | 3,hv=>cases hv;exact c3
   | 4,hv=>cases hv;exact c4
   | 5,hv=>cases hv;exact c5
   | 6,hv=>cases hv;exact c6
   | 7,hv=>cases hv;exact c7
   | j + 8,hv=>simp [Cfg.cells] at hv
  have:=run_loadCells_list (P:=Tryz.prog) w ⟨g,0,none⟩ c.cells.toList (fun j v hv=>by rw [tt.add_lit];exact hr j v hv)
  simp only [loadCells] at this
  exact this⟩
theorem rnew_arg (c:Cfg) (core:Int) (w:World) (hm:¬ c.may):Calls Tryz.prog 26 #[.agg c.cells,.int .i64 core] w fun e w'=>e = .returned (.tuple #[.pointer none,.int .i64 2])∧w.grownBy w' none:=by
 have HG0:Hid (w.grownBy (w.alloc (.cells c.cells 27)) none):=qh (grown_alloc (grown_refl _ _) _)
 have HM:=qh (tt.rmay_any c (w.alloc (.cells c.cells 27)))
 rw [decide_eq_false hm] at HM
 obtain ⟨d0,d1,d2,d3,d4,d5,d6,d7⟩:=(tt.cfg_at w c)
 clear hm
 unfold Cfg.cells at *
 go_enter Tryz.func26,Tryz.ntmps26
 go_wp2_with (go_at_call 64;((with_reducible refine HM.out.mono ?_);rintro e w1 ⟨rfl,hg1⟩;have HG1:=qh hg1;clear hg1))
 go_ret2
 exact ⟨rfl,grown_trans HG0.out HG1.out⟩
theorem rnew_range (c:Cfg) (core:Int) (w:World) (hm:c.may) (hc:core < 0 ∨ c.co ≤ core):Calls Tryz.prog 26 #[.agg c.cells,.int .i64 core] w fun e w'=>e = .returned (.tuple #[.pointer none,.int .i64 5])∧w.grownBy w' none:=by
 have HG0:Hid (w.grownBy (w.alloc (.cells c.cells 27)) none):=qh (grown_alloc (grown_refl _ _) _)
 have HM:=qh (tt.rmay_any c (w.alloc (.cells c.cells 27)))
 rw [decide_eq_true hm] at HM
 have HC:=qh (tt.cfg_at w c)
 obtain ⟨d0,d1,d2,d3,d4,d5,d6,d7⟩:=(tt.cfg_at w c)
 clear hm
 by_cases h0:core < 0
 ·have e0:decide (core < 0)=true:=by simp [h0]
  clear hc h0
  unfold Cfg.cells at *
  go_enter Tryz.func26,Tryz.ntmps26
  go_wp2_with (go_at_call 64;((with_reducible refine HM.out.mono ?_);rintro e w1 ⟨rfl,hg1⟩;have HG1:=qh hg1;obtain ⟨d0,d1,d2,d3,d4,d5,d6,d7⟩:=HC.out.grown hg1;clear hg1))
  go_ret2
  exact ⟨rfl,grown_trans HG0.out HG1.out⟩
 ·have e0:decide (core < 0)=false:=by simp [h0]
  have e1:decide (c.co ≤ core)=true:=by simp;omega
  clear hc h0
  unfold Cfg.cells at *
  go_enter Tryz.func26,Tryz.ntmps26
  go_wp2_with (go_at_call 64;((with_reducible refine HM.out.mono ?_);rintro e w1 ⟨rfl,hg1⟩;have HG1:=qh hg1;obtain ⟨d0,d1,d2,d3,d4,d5,d6,d7⟩:=HC.out.grown hg1;clear hg1))
  go_ret2
  exact ⟨rfl,grown_trans HG0.out HG1.out⟩
structure RP (w W:World) (P:Pm) (c:kk.RLoc) (b:Option (Nat × Nat)) (m:Option (Nat × Nat × Nat)) (d:Option Nat):Prop where
 old:w.grownBy W none
 cfg:tt.CfgAt W w.heap.size P.c
 ca:Rac W c P.c (kk.empty P.c)
 cl:∀ g,c.any g→w.heap.size ≤ g
 ba:∀ r g,b=some (r,g)→bk.RAt W r g P.N P.m []∧w.heap.size ≤ r∧w.heap.size ≤ g
 mr:∀ r h1 h2,m=some (r,h1,h2)→mrk.RAt W r h1 h2 P.N Ms.zero∧w.heap.size ≤ r∧w.heap.size ≤ h1∧w.heap.size ≤ h2
 dl:∀ g,d=some g→de.Both W g (de.nw P.c.ne)∧w.heap.size ≤ g
section
variable {w W W':World} {P:Pm} {c:kk.RLoc} {b:Option (Nat × Nat)} {m:Option (Nat × Nat × Nat)} {d:Option Nat}
theorem RP.grown (h:RP w W P c b m d) (hg:W.grownBy W' none):RP w W' P c b m d:=
 ⟨grown_trans h.old hg,h.cfg.grown hg,h.ca.same fun g hh=>hg.block g (h.ca.lt hh) (by simp),h.cl,fun r g e=>by
  obtain ⟨a,l1,l2⟩:=h.ba r g e
  exact ⟨a.of_block (hg.block _ (lt_of a.blk) (by simp)) (hg.block _ (by obtain ⟨_,h1⟩:=a.typ;exact lt_of h1) (by simp)),l1,l2⟩,fun r h1 h2 e=>by
  obtain ⟨a,l1,l2,l3⟩:=h.mr r h1 h2 e
  exact ⟨a.grown hg,l1,l2,l3⟩,fun g e=>by
  obtain ⟨a,l⟩:=h.dl g e
  exact ⟨a.same (hg.block _ a.lt (by simp)),l⟩⟩
theorem RP.backs (h:RP w W P c none m d) {r g:Nat} (hA:bk.RAt W' r g P.N P.m []) (hg:W.grownBy W' none) (h1:W.heap.size ≤ r) (h2:W.heap.size ≤ g):RP w W' P c (some (r,g)) m d:=by
 have k:=h.grown hg
 have hs:=h.old.size
 exact ⟨k.old,k.cfg,k.ca,k.cl,fun r' g' e=>by cases e;exact ⟨hA,Nat.le_trans hs h1,Nat.le_trans hs h2⟩,k.mr,k.dl⟩
theorem RP.marks (h:RP w W P c b none d) {r g1 g2:Nat} (hA:mrk.RAt W' r g1 g2 P.N Ms.zero) (hg:W.grownBy W' none) (h1:W.heap.size ≤ r) (h2:W.heap.size ≤ g1) (h3:W.heap.size ≤ g2):RP w W' P c b (some (r,g1,g2)) d:=by
 have k:=h.grown hg
 have hs:=h.old.size
 exact ⟨k.old,k.cfg,k.ca,k.cl,k.ba,fun r' g' g'' e=>by cases e;exact ⟨hA,Nat.le_trans hs h1,Nat.le_trans hs h2,Nat.le_trans hs h3⟩,k.dl⟩
theorem RP.deal (h:RP w W P c b m none):RP w (W.alloc (.cells (de.da (de.nw P.c.ne)) 78)) P c b m (some W.heap.size):=by
 have k:=h.grown (grown_alloc (grown_refl W none) (.cells (de.da (de.nw P.c.ne)) 78))
 exact ⟨k.old,k.cfg,k.ca,k.cl,k.ba,k.mr,fun g e=>by cases e;exact ⟨⟨de.zs,0,⟨heap_alloc_new _ _⟩,fun h=>(h rfl).elim,fun h=>by cases h⟩,h.old.size⟩⟩
theorem RP.done {br bg mr m1 m2 dg:Nat} (h:RP w W P c (some (br,bg)) (some (mr,m1,m2)) (some dg)) :
  RN (W.alloc (.cells (rc P ⟨W.heap.size,c,br,bg,mr,m1,m2,dg⟩ (bare 0 0 0 0 0 0 false false) false) 73)) ⟨W.heap.size,c,br,bg,mr,m1,m2,dg⟩ P (newS P) ∧
  w.grownBy (W.alloc (.cells (rc P ⟨W.heap.size,c,br,bg,mr,m1,m2,dg⟩ (bare 0 0 0 0 0 0 false false) false) 73)) none∧∀ g,RL.any ⟨W.heap.size,c,br,bg,mr,m1,m2,dg⟩ g→w.heap.size ≤ g:=by
 have k:=h.grown (grown_alloc (grown_refl W none) (.cells (rc P ⟨W.heap.size,c,br,bg,mr,m1,m2,dg⟩ (bare 0 0 0 0 0 0 false false) false) 73))
 refine ⟨⟨heap_alloc_new _ _,k.ca,(k.ba _ _ rfl).1,(k.mr _ _ _ rfl).1,(k.dl _ rfl).1⟩,k.old,?_⟩
 rintro g (e | hc | (e | e) | (e | e | e) | e)
 ·have e:g=W.heap.size:=e
  have:=h.old.size;omega
 ·exact h.cl g hc
 ·have e:g=br:=e
  have:=(h.ba _ _ rfl).2.1;omega
 ·have e:g=bg:=e
  have:=(h.ba _ _ rfl).2.2;omega
 ·have e:g=mr:=e
  have:=(h.mr _ _ _ rfl).2.1;omega
 ·have e:g=m1:=e
  have:=(h.mr _ _ _ rfl).2.2.1;omega
 ·have e:g=m2:=e
  have:=(h.mr _ _ _ rfl).2.2.2;omega
 ·have e:g=dg:=e
  have:=(h.dl _ rfl).2;omega
end
theorem rc_lit (P:Pm) (q:Nat) (c:kk.RLoc) (br bg mr m1 m2 dg:Nat):rc P ⟨q,c,br,bg,mr,m1,m2,dg⟩ (bare 0 0 0 0 0 0 false false) false=#[.int .i64 P.c.co,.int .i64 P.c.se,.int .i64 P.c.wa,.int .i64 P.c.bl,.int .i64 P.c.lo,.int .i64 P.c.ba,.int .i64 P.c.ne,.int .i64 P.c.tr,.int .i64 P.core,.pointer (some ⟨c.b,0,none⟩),.pointer (some ⟨br,0,none⟩),.pointer (some ⟨mr,0,none⟩),.pointer (some ⟨dg,0,none⟩),.int .u8 0,.int .i64 0,.int .i64 0,.int .i64 0,.int .u64 0,.int .u8 0,.bool false,.bool false,.int .u32 0,.int .u32 0,.int .u32 0,.int .u32 0,.int .u32 0,.int .u32 0,.int .u32 0,.int .u32 0,.int .u32 0,.int .u32 0,.int .u32 0,.int .u32 0,.int .u32 0,.int .u32 0,.int .u32 0,.int .u32 0,.bool false]:=by
 unfold rc na Cfg.cells
 simp [tt.nt,bare,zd,U]
theorem rnew_ok (P:Pm) (hP:Pok P) (w:World):Calls Tryz.prog 26 #[.agg P.c.cells,.int .i64 P.core] w fun e w'=>∃ R:RL,e = .returned (.tuple #[.pointer (some ⟨R.q,0,none⟩),.int .i64 0])∧RN w' R P (newS P)∧w.grownBy w' none∧∀ g,R.any g→w.heap.size ≤ g:=by
 have HM:=qh (tt.rmay_any P.c (w.alloc (.cells P.c.cells 27)))
 rw [decide_eq_true hP.may] at HM
 have HC:=qh (tt.cfg_at w P.c)
 obtain ⟨d0,d1,d2,d3,d4,d5,d6,d7⟩:=(tt.cfg_at w P.c)
 have e0:decide (P.core < 0)=false:=by have:=hP.c0;simp;omega
 have e1:decide (P.c.co ≤ P.core)=false:=by have:=hP.c1;simp;omega
 have HK:=qh fun W=>kk.rnew_ok P.c W hP.may
 have HB:=qh fun W=>bk.rnew_any P.c P.N P.m W hP.may hP.data hP.small hP.backs
 have HMK:=qh fun W=>mrk.rnew_any P.c P.N W hP.may hP.data hP.small
 have HG0:Hid (w.grownBy (w.alloc (.cells P.c.cells 27)) none):=qh (grown_alloc (grown_refl _ _) _)
 clear hP
 obtain ⟨tc,mc,HTC,hagg,hsize,hld0⟩:=namedC
 have HLD:Hid (∀ (w W:World) c b m d,RP w W P c b m d→(loadCellsFrom ⟨w.heap.size,0,none⟩ 0 mc #[]).run Tryz.prog W = .ok P.c.cells W∧W.cell? ⟨w.heap.size,6,none⟩=some (.int .i64 P.c.ne)):=qh fun w W c b m d h=>⟨hld0 _ _ _ h.cfg,h.cfg.c6⟩
 clear hld0
 unfold Cfg.cells at HM HK HB HMK HLD ⊢
 unfold Cfg.cells at d0 d1 d2 d3 d4 d5 d6 d7
 go_enter Tryz.func26,Tryz.ntmps26
 go_upto_region 6 with (first
  | (go_at_call 64;((with_reducible refine HM.out.mono ?_);rintro e w1 ⟨rfl,hg1⟩;have HC1:=qh (HC.out.grown hg1);have HG1:=qh (grown_trans HG0.out hg1);obtain ⟨d0,d1,d2,d3,d4,d5,d6,d7⟩:=HC1.out;clear hg1))
  | (go_at_call 65;((with_reducible refine (HK.out _).mono ?_);rintro e w2 ⟨C,rfl,hc2,hg2,ha2⟩;have R2:Hid (RP w w2 P C none none none):=qh ⟨grown_trans HG1.out hg2,HC1.out.grown hg2,hc2,fun g hg=>Nat.le_trans HG1.out.size (ha2 g hg),fun _ _ e=>(by cases e),fun _ _ _ e=>(by cases e),fun _ e=>(by cases e)⟩;clear hc2 hg2 ha2)))
 rw [HTC.out]
 refine wp_region_held_drew (S:=fun W=>∃ b m d,RP w W P C b m d) (by kernel_rfl) ⟨none,none,none,R2.out.grown (tt.grown_drew (grown_refl _ _))⟩ (fun hHeld=>?_)
 have R3:=qh (R2.out.grown (tt.grown_drew (grown_refl _ _)))
 generalize w2.drew=W0 at R3 hHeld ⊢
 clear R2
 refine tl 0 ?_ rfl ?_ ?_ (tl 1 ?_ rfl ?_ ?_ (tl 2 ?_ rfl ?_ ?_ (tl 3 ?_ rfl ?_ ?_ (tl 5 ?_ rfl ?_ ?_ (tl 7 ?_ rfl ?_ ?_ (tl 8 ?_ rfl ?_ ?_ (tl 9 ?_ rfl ?_ ?_ ?_)))))))
 iterate 8 (rotate_left;(next=>(try simp only [lay]);((intro w0 hSw;obtain ⟨b',m',d',hS'⟩:=hSw;obtain ⟨hl1,hl2⟩:=HLD.out _ _ _ _ _ _ hS';go_simp);try (with_reducible rfl)));next=>rfl)
 try simp only [lay]
 refine wpAnyH_ready (rs:=[4,10]) (by kernel_rfl) (by simp) ?_
 refine ac rfl (fun K hK=>?_) (ac rfl (fun K hK=>?_) (AllReadyH.nil))
 ·go_simp
  (with_reducible refine (HB.out _).mono ?_);rintro e w4 ⟨br,bg,rfl,hA,hgg,h1,h2⟩
  have R4:=qh (R3.out.backs hA hgg h1 h2);clear hA hgg h1 h2
  go_wp2_with fail
  refine hK.out _ _ (⟨_,_,_,R4.out⟩) (fun hHeld=>?_)
  clear hK K
  try simp only [lay]
  refine wpAnyH_ready (rs:=[6,10]) (by kernel_rfl) (by simp) ?_
  refine ac rfl (fun K hK=>?_) (ac rfl (fun K hK=>?_) (AllReadyH.nil))
  ·go_simp
   (with_reducible refine (HMK.out _).mono ?_);rintro e w5 ⟨mr,m1,m2,rfl,hA,hgg,h1,h2,h3⟩
   have R5:=qh (R4.out.marks hA hgg h1 h2 h3);clear hA hgg h1 h2 h3
   go_wp2_with fail
   refine hK.out _ _ (⟨_,_,_,R5.out⟩) (fun hHeld=>?_)
   clear hK K
   try simp only [lay]
   refine wpAnyH_ready (rs:=[10]) (by kernel_rfl) (by simp) ?_
   refine ac rfl (fun K hK=>?_) (AllReadyH.nil)
   go_simp
   have R6:=qh R5.out.deal
   refine hK.out _ _ (⟨_,_,_,R6.out⟩) (fun hHeld=>?_)
   clear hK K
   try simp only [lay]
   refine tl 11 ?_ rfl ?_ ?_ ?_
   (rotate_left;(next=>((intro w0 hSw;go_simp);try (with_reducible rfl)));next=>rfl)
   try simp only [lay]
   have RD:=qh R6.out.done
   rw [rc_lit] at RD
   refine rd 12 rfl fun K hK=>?_
   go_simp
   refine hK.out _ _ (⟨_,_,_,R6.out.grown (grown_alloc (grown_refl _ _) _)⟩) (fun hHeld=>?_)
   clear hK K
   try simp only [lay]
   refine tl 13 ?_ rfl ?_ ?_ (tl 14 ?_ rfl ?_ ?_ ?_)
   iterate 2 (rotate_left;(next=>(try simp only [lay]);((intro w0 hSw;go_simp);try (with_reducible rfl)));next=>rfl)
   try simp only [lay]
   refine wpAnyH_done (by kernel_rfl) ?_ _
   go_wp2_with fail
   go_ret2
   refine ⟨_,?_,RD.out⟩
   first | rfl | (simp only [World.size_alloc];rfl)
  ·go_simp
   have R5:=qh R4.out.deal
   refine hK.out _ _ (⟨_,_,_,R5.out⟩) (fun hHeld=>?_)
   clear hK K
   try simp only [lay]
   refine wpAnyH_ready (rs:=[6]) (by kernel_rfl) (by simp) ?_
   refine ac rfl (fun K hK=>?_) (AllReadyH.nil)
   go_simp
   (with_reducible refine (HMK.out _).mono ?_);rintro e w6 ⟨mr,m1,m2,rfl,hA,hgg,h1,h2,h3⟩
   have R6:=qh (R5.out.marks hA hgg h1 h2 h3);clear hA hgg h1 h2 h3
   go_wp2_with fail
   refine hK.out _ _ (⟨_,_,_,R6.out⟩) (fun hHeld=>?_)
   clear hK K
   try simp only [lay]
   refine tl 11 ?_ rfl ?_ ?_ ?_
   (rotate_left;(next=>((intro w0 hSw;go_simp);try (with_reducible rfl)));next=>rfl)
   try simp only [lay]
   have RD:=qh R6.out.done
   rw [rc_lit] at RD
   refine rd 12 rfl fun K hK=>?_
   go_simp
   refine hK.out _ _ (⟨_,_,_,R6.out.grown (grown_alloc (grown_refl _ _) _)⟩) (fun hHeld=>?_)
   clear hK K
   try simp only [lay]
   refine tl 13 ?_ rfl ?_ ?_ (tl 14 ?_ rfl ?_ ?_ ?_)
   iterate 2 (rotate_left;(next=>(try simp only [lay]);((intro w0 hSw;go_simp);try (with_reducible rfl)));next=>rfl)
   try simp only [lay]
   refine wpAnyH_done (by kernel_rfl) ?_ _
   go_wp2_with fail
   go_ret2
   refine ⟨_,?_,RD.out⟩
   first | rfl | (simp only [World.size_alloc];rfl)
 ·go_simp
  have R4:=qh R3.out.deal
  refine hK.out _ _ (⟨_,_,_,R4.out⟩) (fun hHeld=>?_)
  clear hK K
  try simp only [lay]
  refine wpAnyH_ready (rs:=[4]) (by kernel_rfl) (by simp) ?_
  refine ac rfl (fun K hK=>?_) (AllReadyH.nil)
  go_simp
  (with_reducible refine (HB.out _).mono ?_);rintro e w5 ⟨br,bg,rfl,hA,hgg,h1,h2⟩
  have R5:=qh (R4.out.backs hA hgg h1 h2);clear hA hgg h1 h2
  go_wp2_with fail
  refine hK.out _ _ (⟨_,_,_,R5.out⟩) (fun hHeld=>?_)
  clear hK K
  try simp only [lay]
  refine wpAnyH_ready (rs:=[6]) (by kernel_rfl) (by simp) ?_
  refine ac rfl (fun K hK=>?_) (AllReadyH.nil)
  go_simp
  (with_reducible refine (HMK.out _).mono ?_);rintro e w6 ⟨mr,m1,m2,rfl,hA,hgg,h1,h2,h3⟩
  have R6:=qh (R5.out.marks hA hgg h1 h2 h3);clear hA hgg h1 h2 h3
  go_wp2_with fail
  refine hK.out _ _ (⟨_,_,_,R6.out⟩) (fun hHeld=>?_)
  clear hK K
  try simp only [lay]
  refine tl 11 ?_ rfl ?_ ?_ ?_
  (rotate_left;(next=>((intro w0 hSw;go_simp);try (with_reducible rfl)));next=>rfl)
  try simp only [lay]
  have RD:=qh R6.out.done
  rw [rc_lit] at RD
  refine rd 12 rfl fun K hK=>?_
  go_simp
  refine hK.out _ _ (⟨_,_,_,R6.out.grown (grown_alloc (grown_refl _ _) _)⟩) (fun hHeld=>?_)
  clear hK K
  try simp only [lay]
  refine tl 13 ?_ rfl ?_ ?_ (tl 14 ?_ rfl ?_ ?_ ?_)
  iterate 2 (rotate_left;(next=>(try simp only [lay]);((intro w0 hSw;go_simp);try (with_reducible rfl)));next=>rfl)
  try simp only [lay]
  refine wpAnyH_done (by kernel_rfl) ?_ _
  go_wp2_with fail
  go_ret2
  refine ⟨_,?_,RD.out⟩
  first | rfl | (simp only [World.size_alloc];rfl)
end Go.Proofs.YtcoimipgilkmbaaGreatDoor.nr
