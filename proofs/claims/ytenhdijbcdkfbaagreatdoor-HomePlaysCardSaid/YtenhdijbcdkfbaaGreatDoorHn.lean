/-
 What New makes a home: contract. No condition but what it names.
 What Copy makes of a home: contract. No condition but what it names.
-/
import Derived.Test.YtenhdijbcdkfbaaGreatDoorTl
import Derived.Test.YtenhdijbcdkfbaaGreatDoorHc
import Derived.Test.YtenhdijbcdkfbaaGreatDoorHd
import Derived.Shelf.SlMaps.Clone
import Derived.Test.YtenhdijbcdkfbaaGreatDoorPk
import Derived.Test.YtenhdijbcdkfbaaGreatDoorMp
namespace Go.Proofs.YtenhdijbcdkfbaaGreatDoor.hh
set_option linter.unusedVariables false
set_option linter.unusedSimpArgs false
set_option maxRecDepth 1000000
set_option maxHeartbeats 16000000
open Go Go.ChangeShapes Go.WideShapes Go.ChangeAt Go.RowKit
open Go.Proofs.YtenhdijbcdkfbaaGreatDoor.tt (Nt Cfg fits net bare zd usd uses coreOf ok_ends MapAt mput mdel ik NPool NSl Turn flat na nt zn grown_alloc grown_refl grown_trans tyne lt_of)
open Go.Proofs.YtenhdijbcdkfbaaGreatDoor.en (En gets back asked asks free ask_parts may_parts ea)
open Go.Proofs.YtenhdijbcdkfbaaGreatDoor.mm (wi wo ones wo_lt)
theorem new_own {mb n B7 B8 PB s:Nat} {mv:Value} (l7:s ≤ B7) (l8:s ≤ B8) (lp:s ≤ PB):∀ i,(Ft.mk mb mv (.slice (some ⟨B7,0,none⟩) n n) B8 PB (.slice none 0 0)).own i→mv.ownBlock=some i ∨ s ≤ i:=fun i hi=>by
 rcases hi with e | e | e | e | e
 ·exact .inl e
 ·simp [Value.ownBlock] at e;right;omega
 ·right;rw [e];exact l8
 ·right;rw [e];exact lp
 ·simp [Value.ownBlock] at e
theorem row_up {w w':World} {g:Nat} {o:Obj} (h:w.heap[g]?=some o) (hg:w.grownBy w' none):w'.heap[g]?=some o:=(hg.block g (Array.getElem?_eq_some_iff.1 h).1 (by simp)).trans h
theorem co_le {c:Cfg} (h:c.may):1 ≤ c.co∧c.co ≤ 16:=h.fits.1
theorem home_new {wc:World} {c:Cfg} {mb:Nat} {mv:Value} {bs:List (List Int)} {B7 B8 PB n:Nat} (hM:pp.Mem wc mb mv bs) (hm:c.may) (hl:(bs.length:Int)=c.bl) (hn:c.data=(n:Int)) (hn2:n ≤ 256)
  (h7:wc.heap[B7]?=some (.cells (rep2 free n n).toArray 58 (0,0))) (h8:wc.heap[B8]?=some (.map #[] 0)) (hp:wc.heap[PB]?=some (.cells #[.slice none 0 0,.int .i64 (c.co * (c.ba + 1))] 116 (0,0)))
  (l7:gs ≤ B7) (l8:gs ≤ B8) (lp:gs ≤ PB) (lv:∀ i,mv.ownBlock=some i→gs ≤ i) :
  HomeAt (wc.alloc (.cells #[.int .i64 c.co,.pointer (some ⟨mb,0,none⟩),.slice (some ⟨B7,0,none⟩) n n,.map (some B8),.pointer (some ⟨PB,0,none⟩)] 88)) wc.heap.size c ⟨mb,mv,.slice (some ⟨B7,0,none⟩) n n,B8,PB,.slice none 0 0⟩ (new c bs):=by
 have hg:wc.grownBy (wc.alloc (.cells #[.int .i64 c.co,.pointer (some ⟨mb,0,none⟩),.slice (some ⟨B7,0,none⟩) n n,.map (some B8),.pointer (some ⟨PB,0,none⟩)] 88)) none:=grown_alloc (grown_refl _ _) _
 have hr:=(room_le hm).2.2
 have hdn:c.data.toNat=n:=by omega
 have hen:(new c bs).en=List.replicate n free:=by show List.replicate c.data.toNat free=_;rw [hdn]
 have hu:hh.und (new c bs)=fun _=>none:=by
  funext k
  unfold hh.und
  split
  ·have:jbOf (new c bs) k.toNat=none:=by
    unfold jbOf new
    rw [List.getD_eq_getElem?_getD,List.getElem?_replicate]
    split <;> rfl
   rw [this];rfl
  ·rfl
 have h7':=row_up h7 hg
 have h8':=row_up h8 hg
 have hp':=row_up hp hg
 have hro:(room c:Int)=c.co * (c.ba + 1):=hr
 refine ⟨heap_alloc_new _ _,hM.kept hg,?_,?_,⟨?_,Or.inl ⟨rfl,rfl,rfl⟩,by simp [Value.ownBlock]⟩,new_inv c bs hm (by omega) (fun r h=>hM.len r h),fun b j e=>?_,Nat.zero_le _,fun i hi=>?_⟩
 ·rw [hen,List.length_replicate]
  refine .inr ⟨B7,0,n,_,rfl,h7',by rw [tt.flat_len et_len,List.length_replicate],Nat.le_refl _,by unfold maxLen;omega,by rw [List.size_toArray,rep2_len _ _ _ (Nat.le_refl _)];omega,fun k x hk=>?_⟩
  rw [Nat.zero_add,List.getElem?_toArray,rep2_full];exact hk
 ·rw [hu]
  obtain ⟨es,ck,e1,e2,e3⟩:=MapAt.new wc
  rw [heap_alloc_new] at e1
  cases e1
  exact ⟨_,_,h8',e2,e3⟩
 ·rw [hro];exact hp'
 ·have:(new c bs).jb=List.replicate c.data.toNat none:=rfl
  rw [this,List.getElem?_replicate] at e
  split at e <;> cases e
 ·rcases hi with e | e | e | e | e
  ·exact lv i e
  ·simp [Value.ownBlock] at e;omega
  ·show gs ≤ i;rw [e];exact l8
  ·rw [e];exact lp
  ·simp [Value.ownBlock] at e
theorem new_nil (c:Cfg) (w:World):Calls Tryz.prog 7 #[.agg c.cells,.pointer none] w fun e w'=>e = .returned (.tuple #[.pointer none,.int .i64 1])∧w.grownBy w' none:=by
 unfold Cfg.cells
 go_enter Tryz.func7,Tryz.ntmps7
 go_wp2
 go_ret2
 exact ⟨rfl,grown_alloc (grown_refl _ _) _⟩
theorem new_bad (c:Cfg) (mb:Nat) (mv:Value) (bs:List (List Int)) (w:World) (hM:pp.Mem w mb mv bs) (hT:tt.Tab w) (hm:¬ c.may):Calls Tryz.prog 7 #[.agg c.cells,.pointer (some ⟨mb,0,none⟩)] w fun e w'=>e = .returned (.tuple #[.pointer none,.int .i64 2])∧w.grownBy w' none:=by
 unfold Cfg.cells at *
 obtain ⟨wb,hwb⟩:∃ wb,w.alloc (.cells #[.int .i64 c.co,.int .i64 c.se,.int .i64 c.wa,.int .i64 c.bl,.int .i64 c.lo,.int .i64 c.ba,.int .i64 c.ne,.int .i64 c.tr] 23)=wb:=⟨_,rfl⟩
 have hgb:w.grownBy wb none:=by rw [← hwb];exact grown_alloc (grown_refl _ _) _
 have HG:=qh hgb
 have HCA:=qh (tt.cfg_at w c)
 unfold Cfg.cells at HCA
 rw [hwb] at HCA
 have HK:Hid (∀ w',wb.grownBy w' none→_):=qh fun w' h'=>(HCA.out.grown h').limbs
 have HMA:Hid (∀ w',wb.grownBy w' none→Calls Tryz.prog 26 #[.agg #[.int .i64 c.co,.int .i64 c.se,.int .i64 c.wa,.int .i64 c.bl,.int .i64 c.lo,.int .i64 c.ba,.int .i64 c.ne,.int .i64 c.tr]] w' fun e w''=>e = .returned (.int .i64 2)∧w'.grownBy w'' none):=qh fun w' h'=>by
  have:=tt.may_any c w' (hT.grown (grown_trans hgb h'))
  rw [tt.yes_not hm] at this;exact this
 clear hM hT hm hgb
 go_enter Tryz.func7,Tryz.ntmps7
 go_wp2_with fail
 refine wp_region_held_drew (S:=fun w'=>wb.grownBy w' none) (by kernel_rfl) (tt.grown_drew (grown_refl _ _)) (fun hHeld=>?_)
 generalize wb.drew=wd at hHeld ⊢
 refine tl 0 ?_ rfl ?_ ?_ ?_
 (rotate_left;(next=>((intro w0 hSw;obtain ⟨hs0,hs1,hs2,hs3,hs4,hs5,hs6,hs7⟩:=HK.out w0 hSw;go_simp);try (with_reducible rfl)));next=>rfl)
 try simp only [lay]
 refine rd 1 rfl fun K hK=>?_
 go_simp
 (with_reducible refine (HMA.out _ hHeld).mono ?_);rintro e wA ⟨rfl,hgA⟩;have HGA:=qh (grown_trans hHeld hgA)
 refine hK.out _ _ HGA.out (fun hHeld=>?_)
 clear hK K
 try simp only [lay]
 refine tl 2 ?_ rfl ?_ ?_ (tl 3 ?_ rfl ?_ ?_ ?_)
 iterate 2 (rotate_left;(next=>(try simp only [lay]);((intro w0 hSw;go_simp);try (with_reducible rfl)));next=>rfl)
 try simp only [lay]
 refine tu 4 rfl ?_
 try simp only [lay]
 refine tu 5 rfl ?_
 try simp only [lay]
 refine tu 6 rfl ?_
 try simp only [lay]
 refine tu 7 rfl ?_
 try simp only [lay]
 refine tu 8 rfl ?_
 try simp only [lay]
 refine tl 9 ?_ rfl ?_ ?_ ?_
 (rotate_left;(next=>((intro w0 hSw;go_simp);try (with_reducible rfl)));next=>rfl)
 try simp only [lay]
 refine wpAnyH_done (by kernel_rfl) ?_ _
 go_wp2_with fail
 go_ret2
 exact ⟨rfl,grown_trans HG.out HGA.out⟩
theorem new_yes (c:Cfg) (mb:Nat) (mv:Value) (bs:List (List Int)) (w:World) (hM:pp.Mem w mb mv bs) (hT:tt.Tab w) (hm:c.may) (hl:(bs.length:Int)=c.bl) (hgs:gs ≤ w.heap.size) (hv:∀ i,mv.ownBlock=some i→gs ≤ i):Calls Tryz.prog 7 #[.agg c.cells,.pointer (some ⟨mb,0,none⟩)] w fun e w'=>∃ h F,e = .returned (.tuple #[.pointer (some ⟨h,0,none⟩),.int .i64 0]) ∧
  HomeAt w' h c F (new c bs)∧w.grownBy w' none∧F.mb=mb∧F.mv=mv∧w.heap.size ≤ h∧∀ i,F.own i→mv.ownBlock=some i ∨ w.heap.size ≤ i:=by
 unfold Cfg.cells at *
 obtain ⟨wb,hwb⟩:∃ wb,w.alloc (.cells #[.int .i64 c.co,.int .i64 c.se,.int .i64 c.wa,.int .i64 c.bl,.int .i64 c.lo,.int .i64 c.ba,.int .i64 c.ne,.int .i64 c.tr] 23)=wb:=⟨_,rfl⟩
 have hgb:w.grownBy wb none:=by rw [← hwb];exact grown_alloc (grown_refl _ _) _
 have HG:=qh hgb
 have HCA:=qh (tt.cfg_at w c)
 unfold Cfg.cells at HCA
 rw [hwb] at HCA
 have HK:Hid (∀ w',wb.grownBy w' none→_):=qh fun w' h'=>(HCA.out.grown h').limbs
 have HMA:Hid (∀ w',wb.grownBy w' none→Calls Tryz.prog 26 #[.agg #[.int .i64 c.co,.int .i64 c.se,.int .i64 c.wa,.int .i64 c.bl,.int .i64 c.lo,.int .i64 c.ba,.int .i64 c.ne,.int .i64 c.tr]] w' fun e w''=>e = .returned (.int .i64 0)∧w'.grownBy w'' none):=qh fun w' h'=>by
  have:=tt.may_any c w' (hT.grown (grown_trans hgb h'))
  rw [tt.yes_of hm] at this;exact this
 have HMB:Hid (∀ w',wb.grownBy w' none→Calls Tryz.prog 27 #[.pointer (some ⟨mb,0,none⟩)] w' fun e w''=>e = .returned (.int .i64 c.bl)∧w'=w''):=qh fun w' h'=>by
  have:=pp.blocks_any mb mv bs w' (hM.kept (grown_trans hgb h'))
  rw [hl] at this;exact this
 obtain ⟨n,hn⟩:∃ n:Nat,c.data=(n:Int):=⟨c.data.toNat,by have:=hm.2;omega⟩
 have hn1:1 ≤ n:=by have:=hm.2;omega
 have hn2:n ≤ 256:=by have:=data_le hm;have:=hm.fits.bl;omega
 have HD:Hid (∀ w',wb.grownBy w' none→Calls Tryz.prog 31 #[.agg #[.int .i64 c.co,.int .i64 c.se,.int .i64 c.wa,.int .i64 c.bl,.int .i64 c.lo,.int .i64 c.ba,.int .i64 c.ne,.int .i64 c.tr]] w' fun e w''=>e = .returned (.int .i64 (n:Int))∧w'.grownBy w'' none):=qh fun w' h'=>by
  have:=tt.data_yes c w' (hT.grown (grown_trans hgb h')) hm
  rw [hn] at this;exact this
 have HF:Hid (∀ w:World,_):=qh fun w:World=>en.free_any w
 have HRP:Hid (∀ (w':World) (g:Nat),w'.heap[g]?=some (.cells #[.int .i64 (-1),.int .u32 0] 58 (0,0))→_):=qh fun w' g hg=>repeat_any free n hn1 hn2 w' g hg
 have h1:=co_le hm
 obtain ⟨h2,h3⟩:=h1
 obtain ⟨h4,h5⟩:=tt.hb_bounds (hm.1 5 (by omega))
 have h4:1 ≤ c.ba:=h4
 have h5:c.ba ≤ 4:=h5
 obtain ⟨r1,r2,r3⟩:=room_le hm
 have r4:c.co * (c.ba + 1) ≤ 65536:=by unfold roomH at r3;omega
 have r5:1 ≤ c.co * (c.ba + 1):=by unfold roomH at r3;omega
 have HPN:Hid (∀ w:World,Calls Tryz.prog 28 #[.int .i64 (c.co * (c.ba + 1))] w fun e w'=>e = .returned (.tuple #[.pointer (some ⟨w.heap.size,0,none⟩),.int .i64 0])∧w'=w.alloc (.cells #[.slice none 0 0,.int .i64 (c.co * (c.ba + 1))] 116)):=qh fun w=>by
  have:=tt.pnew_ok (room c) w r1 r2
  rw [show (room c:Int)=c.co * (c.ba + 1) from r3] at this;exact this
 have hmm:=@run_makeMap Tryz.prog
 have HMK:Hid (∀ w',w.grownBy w' none→_):=qh fun w' h'=>hM.kept h'
 have HMM:=qh hm
 have HLL:=qh hl
 have HNN:=qh hn
 have HN2:=qh hn2
 have HGS:=qh hgs
 have HVV:=qh hv
 clear hM hT hm hl hgb hn hn1 hn2 hgs hv r1 r2 r3
 go_enter Tryz.func7,Tryz.ntmps7
 go_wp2_with fail
 refine wp_region_held_drew (S:=fun w'=>wb.grownBy w' none) (by kernel_rfl) (tt.grown_drew (grown_refl _ _)) (fun hHeld=>?_)
 generalize wb.drew=wd at hHeld ⊢
 refine tl 0 ?_ rfl ?_ ?_ ?_
 (rotate_left;(next=>((intro w0 hSw;obtain ⟨hs0,hs1,hs2,hs3,hs4,hs5,hs6,hs7⟩:=HK.out w0 hSw;go_simp);try (with_reducible rfl)));next=>rfl)
 try simp only [lay]
 refine rd 1 rfl fun K hK=>?_
 go_simp
 (with_reducible refine (HMA.out _ hHeld).mono ?_);rintro e wA ⟨rfl,hgA⟩;have HGA:=qh (grown_trans hHeld hgA)
 refine hK.out _ _ HGA.out (fun hHeld=>?_)
 clear hK K
 try simp only [lay]
 refine tl 2 ?_ rfl ?_ ?_ (tl 3 ?_ rfl ?_ ?_ (tl 4 ?_ rfl ?_ ?_ (tl 6 ?_ rfl ?_ ?_ (tl 7 ?_ rfl ?_ ?_ ?_))))
 iterate 5 (rotate_left;(next=>(try simp only [lay]);((intro w0 hSw;obtain ⟨hs0,hs1,hs2,hs3,hs4,hs5,hs6,hs7⟩:=HK.out w0 hSw;go_simp);try (with_reducible rfl)));next=>rfl)
 try simp only [lay]
 refine rd 5 rfl fun K hK=>?_
 go_simp
 (with_reducible refine (HMB.out _ hHeld).mono ?_);rintro e wA2 ⟨rfl,rfl⟩
 refine hK.out _ _ HGA.out (fun hHeld=>?_)
 clear hK K
 try simp only [lay]
 refine tl 8 ?_ rfl ?_ ?_ (tl 9 ?_ rfl ?_ ?_ ?_)
 iterate 2 (rotate_left;(next=>(try simp only [lay]);((intro w0 hSw;go_simp);try (with_reducible rfl)));next=>rfl)
 try simp only [lay]
 refine wpAnyH_done (by kernel_rfl) ?_ _
 obtain ⟨d0,d1,d2,d3,d4,d5,d6,d7⟩:=HK.out _ HGA.out
 go_wp2_with (go_at_call 28;((with_reducible refine (HPN.out _).mono ?_);rintro e wP ⟨rfl,hwP⟩;have HWP:=qh hwP;clear hwP))
 clear d0 d1 d2 d3 d4 d5 d6 d7
 obtain ⟨PB,hPB⟩:∃ B,wA.heap.size=B:=⟨_,rfl⟩
 have hfp:wP.heap[PB]?=some (.cells #[.slice none 0 0,.int .i64 (c.co * (c.ba + 1))] 116 (0,0)):=by rw [HWP.out,← hPB];exact heap_alloc_new _ _
 have hgP:wb.grownBy wP none:=by rw [HWP.out];exact grown_alloc HGA.out _
 have HLP:Hid (wb.heap.size ≤ PB):=qh (by rw [← hPB];exact HGA.out.size)
 rw [hPB]
 clear hPB HWP
 refine wp_region_held_drew (S:=fun w'=>wb.grownBy w' none) (by kernel_rfl) (tt.grown_drew hgP) (fun hHeld=>?_)
 have hfd:wP.drew.heap[PB]?=some (.cells #[.slice none 0 0,.int .i64 (c.co * (c.ba + 1))] 116 (0,0)):=hfp
 generalize wP.drew=wd6 at hHeld hfd ⊢
 have HBP:=qh hfd
 clear hfd hfp hgP
 refine tl 0 ?_ rfl ?_ ?_ (tl 1 ?_ rfl ?_ ?_ (tl 2 ?_ rfl ?_ ?_ (tl 5 ?_ rfl ?_ ?_ (tl 9 ?_ rfl ?_ ?_ (tl 12 ?_ rfl ?_ ?_ ?_)))))
 iterate 6 (rotate_left;(next=>(try simp only [lay]);((intro w0 hSw;obtain ⟨hs0,hs1,hs2,hs3,hs4,hs5,hs6,hs7⟩:=HK.out w0 hSw;go_simp);try (with_reducible rfl)));next=>rfl)
 try simp only [lay]
 refine wpAnyH_ready (rs:=[3,8]) (by kernel_rfl) (by simp) ?_
 refine (ac rfl (fun K hK=>?_) (ac rfl (fun K hK=>?_) AllReadyH.nil))
 ·skip
  go_simp
  (with_reducible refine (HF.out _).mono ?_);rintro e w1 ⟨rfl,hgw1⟩
  go_wp2_with fail
  replace HBP:=qh (row_up HBP.out hgw1)
  have hgT:=grown_trans hHeld hgw1
  refine hK.out _ _ hgT (fun hHeld=>?_)
  clear hK K hgT hgw1
  try simp only [lay]
  refine wpAnyH_ready (rs:=[4,6,8]) (by kernel_rfl) (by simp) ?_
  refine (ac rfl (fun K hK=>?_) (ac rfl (fun K hK=>?_) (ac rfl (fun K hK=>?_) AllReadyH.nil)))
  ·skip
   go_simp
   obtain ⟨w2,hnw2⟩:∃ w',w1.alloc (.cells #[.int .i64 (-1),.int .u32 0] 58)=w':=⟨_,rfl⟩
   have hgw2:w1.grownBy w2 none:=by rw [← hnw2];exact grown_alloc (grown_refl _ _) _
   obtain ⟨B4,hm4⟩:∃ B,w1.heap.size=B:=⟨_,rfl⟩
   have hB4:w2.heap[B4]?=some (.cells #[.int .i64 (-1),.int .u32 0] 58 (0,0)):=by rw [← hnw2,← hm4];exact heap_alloc_new _ _
   have HL4:Hid (wb.heap.size ≤ B4):=qh (by rw [← hm4];exact hHeld.size)
   rw [hnw2,hm4]
   clear hnw2 hm4
   have HB4:=qh hB4
   clear hB4
   replace HBP:=qh (row_up HBP.out hgw2)
   have hgT:=grown_trans hHeld hgw2
   refine hK.out _ _ hgT (fun hHeld=>?_)
   clear hK K hgT hgw2
   try simp only [lay]
   refine wpAnyH_ready (rs:=[6,8]) (by kernel_rfl) (by simp) ?_
   refine (ac rfl (fun K hK=>?_) (ac rfl (fun K hK=>?_) AllReadyH.nil))
   ·skip
    go_simp
    (with_reducible refine (HD.out _ hHeld).mono ?_);rintro e w3 ⟨rfl,hgw3⟩
    go_wp2_with fail
    replace HBP:=qh (row_up HBP.out hgw3)
    replace HB4:=qh (row_up HB4.out hgw3)
    have hgT:=grown_trans hHeld hgw3
    refine hK.out _ _ hgT (fun hHeld=>?_)
    clear hK K hgT hgw3
    try simp only [lay]
    refine wpAnyH_ready (rs:=[7,8]) (by kernel_rfl) (by simp) ?_
    refine (ac rfl (fun K hK=>?_) (ac rfl (fun K hK=>?_) AllReadyH.nil))
    ·skip
     go_simp
     (with_reducible refine (HRP.out _ _ HB4.out).mono ?_);rintro e w4 ⟨rfl,hB7,hgw4⟩
     obtain ⟨B7,hn7⟩:∃ B,w3.heap.size=B:=⟨_,rfl⟩
     rw [hn7] at hB7 ⊢
     have HL7:Hid (wb.heap.size ≤ B7):=qh (by rw [← hn7];exact hHeld.size)
     clear hn7
     have HB7:=qh hB7
     clear hB7
     go_wp2_with fail
     replace HBP:=qh (row_up HBP.out hgw4)
     replace HB4:=qh (row_up HB4.out hgw4)
     have hgT:=grown_trans hHeld hgw4
     refine hK.out _ _ hgT (fun hHeld=>?_)
     clear hK K hgT hgw4
     try simp only [lay]
     refine wpAnyH_ready (rs:=[8]) (by kernel_rfl) (by simp) ?_
     refine (ac rfl (fun K hK=>?_) AllReadyH.nil)
     go_simp
     try rw [hmm]
     try go_simp
     obtain ⟨w5,hnw5⟩:∃ w',w4.alloc (.map #[] 0)=w':=⟨_,rfl⟩
     have hgw5:w4.grownBy w5 none:=by rw [← hnw5];exact grown_alloc (grown_refl _ _) _
     obtain ⟨B8,hm8⟩:∃ B,w4.heap.size=B:=⟨_,rfl⟩
     have hB8:w5.heap[B8]?=some (.map #[] 0):=by rw [← hnw5,← hm8];exact heap_alloc_new _ _
     have HL8:Hid (wb.heap.size ≤ B8):=qh (by rw [← hm8];exact hHeld.size)
     rw [hnw5,hm8]
     clear hnw5 hm8
     have HB8:=qh hB8
     clear hB8
     replace HBP:=qh (row_up HBP.out hgw5)
     replace HB4:=qh (row_up HB4.out hgw5)
     replace HB7:=qh (row_up HB7.out hgw5)
     have hgT:=grown_trans hHeld hgw5
     refine hK.out _ _ hgT (fun hHeld=>?_)
     clear hK K hgT hgw5
     try simp only [lay]
     refine tl 10 ?_ rfl ?_ ?_ ?_
     (rotate_left;(next=>((intro w0 hSw;go_simp);try (with_reducible rfl)));next=>rfl)
     try simp only [lay]
     refine rd 11 rfl fun K hK=>?_
     go_simp
     refine hK.out _ _ (grown_alloc hHeld _) (fun hHeld2=>?_)
     clear hK K
     try simp only [lay]
     refine wpAnyH_take (i:=13) (oi:=⟨some 4,Op.assign (Operand.tmp 41),_,_,_,_⟩) (v:=?v33) rfl (by kernel_rfl) (by kernel_rfl) (by kernel_rfl) (fun _ _ _ h=>h) (Or.inl ⟨by rfl,?hy33⟩) hHeld2 ?rest33
     case hy33=>((intro w0 hSw;go_simp);try (with_reducible rfl))
     try simp only [lay]
     refine wpAnyH_take (i:=14) (oi:=⟨some 5,Op.assign (Operand.tmp 42),_,_,_,_⟩) (v:=?v34) rfl (by kernel_rfl) (by kernel_rfl) (by kernel_rfl) (fun _ _ _ h=>h) (Or.inl ⟨by rfl,?hy34⟩) hHeld2 ?rest34
     case hy34=>((intro w0 hSw;go_simp);try (with_reducible rfl))
     try simp only [lay]
     refine wpAnyH_done (by kernel_rfl) ?_ _
     go_wp2_with fail
     go_ret2
     have hgw:=grown_trans HG.out hHeld
     exact ⟨_,_,rfl,home_new (HMK.out _ hgw) HMM.out HLL.out HNN.out HN2.out HB7.out HB8.out HBP.out (Nat.le_trans HGS.out (Nat.le_trans HG.out.size HL7.out)) (Nat.le_trans HGS.out (Nat.le_trans HG.out.size HL8.out)) (Nat.le_trans HGS.out (Nat.le_trans HG.out.size HLP.out)) HVV.out,grown_trans HG.out hHeld2,rfl,rfl,hgw.size,new_own (Nat.le_trans HG.out.size HL7.out) (Nat.le_trans HG.out.size HL8.out) (Nat.le_trans HG.out.size HLP.out)⟩
    ·skip
     go_simp
     try rw [hmm]
     try go_simp
     obtain ⟨w6,hnw6⟩:∃ w',w3.alloc (.map #[] 0)=w':=⟨_,rfl⟩
     have hgw6:w3.grownBy w6 none:=by rw [← hnw6];exact grown_alloc (grown_refl _ _) _
     obtain ⟨B8,hm8⟩:∃ B,w3.heap.size=B:=⟨_,rfl⟩
     have hB8:w6.heap[B8]?=some (.map #[] 0):=by rw [← hnw6,← hm8];exact heap_alloc_new _ _
     have HL8:Hid (wb.heap.size ≤ B8):=qh (by rw [← hm8];exact hHeld.size)
     rw [hnw6,hm8]
     clear hnw6 hm8
     have HB8:=qh hB8
     clear hB8
     replace HBP:=qh (row_up HBP.out hgw6)
     replace HB4:=qh (row_up HB4.out hgw6)
     have hgT:=grown_trans hHeld hgw6
     refine hK.out _ _ hgT (fun hHeld=>?_)
     clear hK K hgT hgw6
     try simp only [lay]
     refine wpAnyH_ready (rs:=[7]) (by kernel_rfl) (by simp) ?_
     refine (ac rfl (fun K hK=>?_) AllReadyH.nil)
     go_simp
     (with_reducible refine (HRP.out _ _ HB4.out).mono ?_);rintro e w7 ⟨rfl,hB7,hgw7⟩
     obtain ⟨B7,hn7⟩:∃ B,w6.heap.size=B:=⟨_,rfl⟩
     rw [hn7] at hB7 ⊢
     have HL7:Hid (wb.heap.size ≤ B7):=qh (by rw [← hn7];exact hHeld.size)
     clear hn7
     have HB7:=qh hB7
     clear hB7
     go_wp2_with fail
     replace HBP:=qh (row_up HBP.out hgw7)
     replace HB4:=qh (row_up HB4.out hgw7)
     replace HB8:=qh (row_up HB8.out hgw7)
     have hgT:=grown_trans hHeld hgw7
     refine hK.out _ _ hgT (fun hHeld=>?_)
     clear hK K hgT hgw7
     try simp only [lay]
     refine tl 10 ?_ rfl ?_ ?_ ?_
     (rotate_left;(next=>((intro w0 hSw;go_simp);try (with_reducible rfl)));next=>rfl)
     try simp only [lay]
     refine rd 11 rfl fun K hK=>?_
     go_simp
     refine hK.out _ _ (grown_alloc hHeld _) (fun hHeld2=>?_)
     clear hK K
     try simp only [lay]
     refine wpAnyH_take (i:=13) (oi:=⟨some 4,Op.assign (Operand.tmp 41),_,_,_,_⟩) (v:=?v36) rfl (by kernel_rfl) (by kernel_rfl) (by kernel_rfl) (fun _ _ _ h=>h) (Or.inl ⟨by rfl,?hy36⟩) hHeld2 ?rest36
     case hy36=>((intro w0 hSw;go_simp);try (with_reducible rfl))
     try simp only [lay]
     refine wpAnyH_take (i:=14) (oi:=⟨some 5,Op.assign (Operand.tmp 42),_,_,_,_⟩) (v:=?v37) rfl (by kernel_rfl) (by kernel_rfl) (by kernel_rfl) (fun _ _ _ h=>h) (Or.inl ⟨by rfl,?hy37⟩) hHeld2 ?rest37
     case hy37=>((intro w0 hSw;go_simp);try (with_reducible rfl))
     try simp only [lay]
     refine wpAnyH_done (by kernel_rfl) ?_ _
     go_wp2_with fail
     go_ret2
     have hgw:=grown_trans HG.out hHeld
     exact ⟨_,_,rfl,home_new (HMK.out _ hgw) HMM.out HLL.out HNN.out HN2.out HB7.out HB8.out HBP.out (Nat.le_trans HGS.out (Nat.le_trans HG.out.size HL7.out)) (Nat.le_trans HGS.out (Nat.le_trans HG.out.size HL8.out)) (Nat.le_trans HGS.out (Nat.le_trans HG.out.size HLP.out)) HVV.out,grown_trans HG.out hHeld2,rfl,rfl,hgw.size,new_own (Nat.le_trans HG.out.size HL7.out) (Nat.le_trans HG.out.size HL8.out) (Nat.le_trans HG.out.size HLP.out)⟩
   ·skip
    go_simp
    try rw [hmm]
    try go_simp
    obtain ⟨w8,hnw8⟩:∃ w',w2.alloc (.map #[] 0)=w':=⟨_,rfl⟩
    have hgw8:w2.grownBy w8 none:=by rw [← hnw8];exact grown_alloc (grown_refl _ _) _
    obtain ⟨B8,hm8⟩:∃ B,w2.heap.size=B:=⟨_,rfl⟩
    have hB8:w8.heap[B8]?=some (.map #[] 0):=by rw [← hnw8,← hm8];exact heap_alloc_new _ _
    have HL8:Hid (wb.heap.size ≤ B8):=qh (by rw [← hm8];exact hHeld.size)
    rw [hnw8,hm8]
    clear hnw8 hm8
    have HB8:=qh hB8
    clear hB8
    replace HBP:=qh (row_up HBP.out hgw8)
    replace HB4:=qh (row_up HB4.out hgw8)
    have hgT:=grown_trans hHeld hgw8
    refine hK.out _ _ hgT (fun hHeld=>?_)
    clear hK K hgT hgw8
    try simp only [lay]
    refine wpAnyH_ready (rs:=[6]) (by kernel_rfl) (by simp) ?_
    refine (ac rfl (fun K hK=>?_) AllReadyH.nil)
    go_simp
    (with_reducible refine (HD.out _ hHeld).mono ?_);rintro e w9 ⟨rfl,hgw9⟩
    go_wp2_with fail
    replace HBP:=qh (row_up HBP.out hgw9)
    replace HB4:=qh (row_up HB4.out hgw9)
    replace HB8:=qh (row_up HB8.out hgw9)
    have hgT:=grown_trans hHeld hgw9
    refine hK.out _ _ hgT (fun hHeld=>?_)
    clear hK K hgT hgw9
    try simp only [lay]
    refine wpAnyH_ready (rs:=[7]) (by kernel_rfl) (by simp) ?_
    refine (ac rfl (fun K hK=>?_) AllReadyH.nil)
    go_simp
    (with_reducible refine (HRP.out _ _ HB4.out).mono ?_);rintro e w10 ⟨rfl,hB7,hgw10⟩
    obtain ⟨B7,hn7⟩:∃ B,w9.heap.size=B:=⟨_,rfl⟩
    rw [hn7] at hB7 ⊢
    have HL7:Hid (wb.heap.size ≤ B7):=qh (by rw [← hn7];exact hHeld.size)
    clear hn7
    have HB7:=qh hB7
    clear hB7
    go_wp2_with fail
    replace HBP:=qh (row_up HBP.out hgw10)
    replace HB4:=qh (row_up HB4.out hgw10)
    replace HB8:=qh (row_up HB8.out hgw10)
    have hgT:=grown_trans hHeld hgw10
    refine hK.out _ _ hgT (fun hHeld=>?_)
    clear hK K hgT hgw10
    try simp only [lay]
    refine tl 10 ?_ rfl ?_ ?_ ?_
    (rotate_left;(next=>((intro w0 hSw;go_simp);try (with_reducible rfl)));next=>rfl)
    try simp only [lay]
    refine rd 11 rfl fun K hK=>?_
    go_simp
    refine hK.out _ _ (grown_alloc hHeld _) (fun hHeld2=>?_)
    clear hK K
    try simp only [lay]
    refine wpAnyH_take (i:=13) (oi:=⟨some 4,Op.assign (Operand.tmp 41),_,_,_,_⟩) (v:=?v39) rfl (by kernel_rfl) (by kernel_rfl) (by kernel_rfl) (fun _ _ _ h=>h) (Or.inl ⟨by rfl,?hy39⟩) hHeld2 ?rest39
    case hy39=>((intro w0 hSw;go_simp);try (with_reducible rfl))
    try simp only [lay]
    refine wpAnyH_take (i:=14) (oi:=⟨some 5,Op.assign (Operand.tmp 42),_,_,_,_⟩) (v:=?v40) rfl (by kernel_rfl) (by kernel_rfl) (by kernel_rfl) (fun _ _ _ h=>h) (Or.inl ⟨by rfl,?hy40⟩) hHeld2 ?rest40
    case hy40=>((intro w0 hSw;go_simp);try (with_reducible rfl))
    try simp only [lay]
    refine wpAnyH_done (by kernel_rfl) ?_ _
    go_wp2_with fail
    go_ret2
    have hgw:=grown_trans HG.out hHeld
    exact ⟨_,_,rfl,home_new (HMK.out _ hgw) HMM.out HLL.out HNN.out HN2.out HB7.out HB8.out HBP.out (Nat.le_trans HGS.out (Nat.le_trans HG.out.size HL7.out)) (Nat.le_trans HGS.out (Nat.le_trans HG.out.size HL8.out)) (Nat.le_trans HGS.out (Nat.le_trans HG.out.size HLP.out)) HVV.out,grown_trans HG.out hHeld2,rfl,rfl,hgw.size,new_own (Nat.le_trans HG.out.size HL7.out) (Nat.le_trans HG.out.size HL8.out) (Nat.le_trans HG.out.size HLP.out)⟩
  ·skip
   go_simp
   (with_reducible refine (HD.out _ hHeld).mono ?_);rintro e w11 ⟨rfl,hgw11⟩
   go_wp2_with fail
   replace HBP:=qh (row_up HBP.out hgw11)
   have hgT:=grown_trans hHeld hgw11
   refine hK.out _ _ hgT (fun hHeld=>?_)
   clear hK K hgT hgw11
   try simp only [lay]
   refine wpAnyH_ready (rs:=[4,8]) (by kernel_rfl) (by simp) ?_
   refine (ac rfl (fun K hK=>?_) (ac rfl (fun K hK=>?_) AllReadyH.nil))
   ·skip
    go_simp
    obtain ⟨w12,hnw12⟩:∃ w',w11.alloc (.cells #[.int .i64 (-1),.int .u32 0] 58)=w':=⟨_,rfl⟩
    have hgw12:w11.grownBy w12 none:=by rw [← hnw12];exact grown_alloc (grown_refl _ _) _
    obtain ⟨B4,hm4⟩:∃ B,w11.heap.size=B:=⟨_,rfl⟩
    have hB4:w12.heap[B4]?=some (.cells #[.int .i64 (-1),.int .u32 0] 58 (0,0)):=by rw [← hnw12,← hm4];exact heap_alloc_new _ _
    have HL4:Hid (wb.heap.size ≤ B4):=qh (by rw [← hm4];exact hHeld.size)
    rw [hnw12,hm4]
    clear hnw12 hm4
    have HB4:=qh hB4
    clear hB4
    replace HBP:=qh (row_up HBP.out hgw12)
    have hgT:=grown_trans hHeld hgw12
    refine hK.out _ _ hgT (fun hHeld=>?_)
    clear hK K hgT hgw12
    try simp only [lay]
    refine wpAnyH_ready (rs:=[7,8]) (by kernel_rfl) (by simp) ?_
    refine (ac rfl (fun K hK=>?_) (ac rfl (fun K hK=>?_) AllReadyH.nil))
    ·skip
     go_simp
     (with_reducible refine (HRP.out _ _ HB4.out).mono ?_);rintro e w13 ⟨rfl,hB7,hgw13⟩
     obtain ⟨B7,hn7⟩:∃ B,w12.heap.size=B:=⟨_,rfl⟩
     rw [hn7] at hB7 ⊢
     have HL7:Hid (wb.heap.size ≤ B7):=qh (by rw [← hn7];exact hHeld.size)
     clear hn7
     have HB7:=qh hB7
     clear hB7
     go_wp2_with fail
     replace HBP:=qh (row_up HBP.out hgw13)
     replace HB4:=qh (row_up HB4.out hgw13)
     have hgT:=grown_trans hHeld hgw13
     refine hK.out _ _ hgT (fun hHeld=>?_)
     clear hK K hgT hgw13
     try simp only [lay]
     refine wpAnyH_ready (rs:=[8]) (by kernel_rfl) (by simp) ?_
     refine (ac rfl (fun K hK=>?_) AllReadyH.nil)
     go_simp
     try rw [hmm]
     try go_simp
     obtain ⟨w14,hnw14⟩:∃ w',w13.alloc (.map #[] 0)=w':=⟨_,rfl⟩
     have hgw14:w13.grownBy w14 none:=by rw [← hnw14];exact grown_alloc (grown_refl _ _) _
     obtain ⟨B8,hm8⟩:∃ B,w13.heap.size=B:=⟨_,rfl⟩
     have hB8:w14.heap[B8]?=some (.map #[] 0):=by rw [← hnw14,← hm8];exact heap_alloc_new _ _
     have HL8:Hid (wb.heap.size ≤ B8):=qh (by rw [← hm8];exact hHeld.size)
     rw [hnw14,hm8]
     clear hnw14 hm8
     have HB8:=qh hB8
     clear hB8
     replace HBP:=qh (row_up HBP.out hgw14)
     replace HB4:=qh (row_up HB4.out hgw14)
     replace HB7:=qh (row_up HB7.out hgw14)
     have hgT:=grown_trans hHeld hgw14
     refine hK.out _ _ hgT (fun hHeld=>?_)
     clear hK K hgT hgw14
     try simp only [lay]
     refine tl 10 ?_ rfl ?_ ?_ ?_
     (rotate_left;(next=>((intro w0 hSw;go_simp);try (with_reducible rfl)));next=>rfl)
     try simp only [lay]
     refine rd 11 rfl fun K hK=>?_
     go_simp
     refine hK.out _ _ (grown_alloc hHeld _) (fun hHeld2=>?_)
     clear hK K
     try simp only [lay]
     refine wpAnyH_take (i:=13) (oi:=⟨some 4,Op.assign (Operand.tmp 41),_,_,_,_⟩) (v:=?v42) rfl (by kernel_rfl) (by kernel_rfl) (by kernel_rfl) (fun _ _ _ h=>h) (Or.inl ⟨by rfl,?hy42⟩) hHeld2 ?rest42
     case hy42=>((intro w0 hSw;go_simp);try (with_reducible rfl))
     try simp only [lay]
     refine wpAnyH_take (i:=14) (oi:=⟨some 5,Op.assign (Operand.tmp 42),_,_,_,_⟩) (v:=?v43) rfl (by kernel_rfl) (by kernel_rfl) (by kernel_rfl) (fun _ _ _ h=>h) (Or.inl ⟨by rfl,?hy43⟩) hHeld2 ?rest43
     case hy43=>((intro w0 hSw;go_simp);try (with_reducible rfl))
     try simp only [lay]
     refine wpAnyH_done (by kernel_rfl) ?_ _
     go_wp2_with fail
     go_ret2
     have hgw:=grown_trans HG.out hHeld
     exact ⟨_,_,rfl,home_new (HMK.out _ hgw) HMM.out HLL.out HNN.out HN2.out HB7.out HB8.out HBP.out (Nat.le_trans HGS.out (Nat.le_trans HG.out.size HL7.out)) (Nat.le_trans HGS.out (Nat.le_trans HG.out.size HL8.out)) (Nat.le_trans HGS.out (Nat.le_trans HG.out.size HLP.out)) HVV.out,grown_trans HG.out hHeld2,rfl,rfl,hgw.size,new_own (Nat.le_trans HG.out.size HL7.out) (Nat.le_trans HG.out.size HL8.out) (Nat.le_trans HG.out.size HLP.out)⟩
    ·skip
     go_simp
     try rw [hmm]
     try go_simp
     obtain ⟨w15,hnw15⟩:∃ w',w12.alloc (.map #[] 0)=w':=⟨_,rfl⟩
     have hgw15:w12.grownBy w15 none:=by rw [← hnw15];exact grown_alloc (grown_refl _ _) _
     obtain ⟨B8,hm8⟩:∃ B,w12.heap.size=B:=⟨_,rfl⟩
     have hB8:w15.heap[B8]?=some (.map #[] 0):=by rw [← hnw15,← hm8];exact heap_alloc_new _ _
     have HL8:Hid (wb.heap.size ≤ B8):=qh (by rw [← hm8];exact hHeld.size)
     rw [hnw15,hm8]
     clear hnw15 hm8
     have HB8:=qh hB8
     clear hB8
     replace HBP:=qh (row_up HBP.out hgw15)
     replace HB4:=qh (row_up HB4.out hgw15)
     have hgT:=grown_trans hHeld hgw15
     refine hK.out _ _ hgT (fun hHeld=>?_)
     clear hK K hgT hgw15
     try simp only [lay]
     refine wpAnyH_ready (rs:=[7]) (by kernel_rfl) (by simp) ?_
     refine (ac rfl (fun K hK=>?_) AllReadyH.nil)
     go_simp
     (with_reducible refine (HRP.out _ _ HB4.out).mono ?_);rintro e w16 ⟨rfl,hB7,hgw16⟩
     obtain ⟨B7,hn7⟩:∃ B,w15.heap.size=B:=⟨_,rfl⟩
     rw [hn7] at hB7 ⊢
     have HL7:Hid (wb.heap.size ≤ B7):=qh (by rw [← hn7];exact hHeld.size)
     clear hn7
     have HB7:=qh hB7
     clear hB7
     go_wp2_with fail
     replace HBP:=qh (row_up HBP.out hgw16)
     replace HB4:=qh (row_up HB4.out hgw16)
     replace HB8:=qh (row_up HB8.out hgw16)
     have hgT:=grown_trans hHeld hgw16
     refine hK.out _ _ hgT (fun hHeld=>?_)
     clear hK K hgT hgw16
     try simp only [lay]
     refine tl 10 ?_ rfl ?_ ?_ ?_
     (rotate_left;(next=>((intro w0 hSw;go_simp);try (with_reducible rfl)));next=>rfl)
     try simp only [lay]
     refine rd 11 rfl fun K hK=>?_
     go_simp
     refine hK.out _ _ (grown_alloc hHeld _) (fun hHeld2=>?_)
     clear hK K
     try simp only [lay]
     refine wpAnyH_take (i:=13) (oi:=⟨some 4,Op.assign (Operand.tmp 41),_,_,_,_⟩) (v:=?v45) rfl (by kernel_rfl) (by kernel_rfl) (by kernel_rfl) (fun _ _ _ h=>h) (Or.inl ⟨by rfl,?hy45⟩) hHeld2 ?rest45
     case hy45=>((intro w0 hSw;go_simp);try (with_reducible rfl))
     try simp only [lay]
     refine wpAnyH_take (i:=14) (oi:=⟨some 5,Op.assign (Operand.tmp 42),_,_,_,_⟩) (v:=?v46) rfl (by kernel_rfl) (by kernel_rfl) (by kernel_rfl) (fun _ _ _ h=>h) (Or.inl ⟨by rfl,?hy46⟩) hHeld2 ?rest46
     case hy46=>((intro w0 hSw;go_simp);try (with_reducible rfl))
     try simp only [lay]
     refine wpAnyH_done (by kernel_rfl) ?_ _
     go_wp2_with fail
     go_ret2
     have hgw:=grown_trans HG.out hHeld
     exact ⟨_,_,rfl,home_new (HMK.out _ hgw) HMM.out HLL.out HNN.out HN2.out HB7.out HB8.out HBP.out (Nat.le_trans HGS.out (Nat.le_trans HG.out.size HL7.out)) (Nat.le_trans HGS.out (Nat.le_trans HG.out.size HL8.out)) (Nat.le_trans HGS.out (Nat.le_trans HG.out.size HLP.out)) HVV.out,grown_trans HG.out hHeld2,rfl,rfl,hgw.size,new_own (Nat.le_trans HG.out.size HL7.out) (Nat.le_trans HG.out.size HL8.out) (Nat.le_trans HG.out.size HLP.out)⟩
   ·skip
    go_simp
    try rw [hmm]
    try go_simp
    obtain ⟨w17,hnw17⟩:∃ w',w11.alloc (.map #[] 0)=w':=⟨_,rfl⟩
    have hgw17:w11.grownBy w17 none:=by rw [← hnw17];exact grown_alloc (grown_refl _ _) _
    obtain ⟨B8,hm8⟩:∃ B,w11.heap.size=B:=⟨_,rfl⟩
    have hB8:w17.heap[B8]?=some (.map #[] 0):=by rw [← hnw17,← hm8];exact heap_alloc_new _ _
    have HL8:Hid (wb.heap.size ≤ B8):=qh (by rw [← hm8];exact hHeld.size)
    rw [hnw17,hm8]
    clear hnw17 hm8
    have HB8:=qh hB8
    clear hB8
    replace HBP:=qh (row_up HBP.out hgw17)
    have hgT:=grown_trans hHeld hgw17
    refine hK.out _ _ hgT (fun hHeld=>?_)
    clear hK K hgT hgw17
    try simp only [lay]
    refine wpAnyH_ready (rs:=[4]) (by kernel_rfl) (by simp) ?_
    refine (ac rfl (fun K hK=>?_) AllReadyH.nil)
    go_simp
    obtain ⟨w18,hnw18⟩:∃ w',w17.alloc (.cells #[.int .i64 (-1),.int .u32 0] 58)=w':=⟨_,rfl⟩
    have hgw18:w17.grownBy w18 none:=by rw [← hnw18];exact grown_alloc (grown_refl _ _) _
    obtain ⟨B4,hm4⟩:∃ B,w17.heap.size=B:=⟨_,rfl⟩
    have hB4:w18.heap[B4]?=some (.cells #[.int .i64 (-1),.int .u32 0] 58 (0,0)):=by rw [← hnw18,← hm4];exact heap_alloc_new _ _
    have HL4:Hid (wb.heap.size ≤ B4):=qh (by rw [← hm4];exact hHeld.size)
    rw [hnw18,hm4]
    clear hnw18 hm4
    have HB4:=qh hB4
    clear hB4
    replace HBP:=qh (row_up HBP.out hgw18)
    replace HB8:=qh (row_up HB8.out hgw18)
    have hgT:=grown_trans hHeld hgw18
    refine hK.out _ _ hgT (fun hHeld=>?_)
    clear hK K hgT hgw18
    try simp only [lay]
    refine wpAnyH_ready (rs:=[7]) (by kernel_rfl) (by simp) ?_
    refine (ac rfl (fun K hK=>?_) AllReadyH.nil)
    go_simp
    (with_reducible refine (HRP.out _ _ HB4.out).mono ?_);rintro e w19 ⟨rfl,hB7,hgw19⟩
    obtain ⟨B7,hn7⟩:∃ B,w18.heap.size=B:=⟨_,rfl⟩
    rw [hn7] at hB7 ⊢
    have HL7:Hid (wb.heap.size ≤ B7):=qh (by rw [← hn7];exact hHeld.size)
    clear hn7
    have HB7:=qh hB7
    clear hB7
    go_wp2_with fail
    replace HBP:=qh (row_up HBP.out hgw19)
    replace HB8:=qh (row_up HB8.out hgw19)
    replace HB4:=qh (row_up HB4.out hgw19)
    have hgT:=grown_trans hHeld hgw19
    refine hK.out _ _ hgT (fun hHeld=>?_)
    clear hK K hgT hgw19
    try simp only [lay]
    refine tl 10 ?_ rfl ?_ ?_ ?_
    (rotate_left;(next=>((intro w0 hSw;go_simp);try (with_reducible rfl)));next=>rfl)
    try simp only [lay]
    refine rd 11 rfl fun K hK=>?_
    go_simp
    refine hK.out _ _ (grown_alloc hHeld _) (fun hHeld2=>?_)
    clear hK K
    try simp only [lay]
    refine wpAnyH_take (i:=13) (oi:=⟨some 4,Op.assign (Operand.tmp 41),_,_,_,_⟩) (v:=?v48) rfl (by kernel_rfl) (by kernel_rfl) (by kernel_rfl) (fun _ _ _ h=>h) (Or.inl ⟨by rfl,?hy48⟩) hHeld2 ?rest48
    case hy48=>((intro w0 hSw;go_simp);try (with_reducible rfl))
    try simp only [lay]
    refine wpAnyH_take (i:=14) (oi:=⟨some 5,Op.assign (Operand.tmp 42),_,_,_,_⟩) (v:=?v49) rfl (by kernel_rfl) (by kernel_rfl) (by kernel_rfl) (fun _ _ _ h=>h) (Or.inl ⟨by rfl,?hy49⟩) hHeld2 ?rest49
    case hy49=>((intro w0 hSw;go_simp);try (with_reducible rfl))
    try simp only [lay]
    refine wpAnyH_done (by kernel_rfl) ?_ _
    go_wp2_with fail
    go_ret2
    have hgw:=grown_trans HG.out hHeld
    exact ⟨_,_,rfl,home_new (HMK.out _ hgw) HMM.out HLL.out HNN.out HN2.out HB7.out HB8.out HBP.out (Nat.le_trans HGS.out (Nat.le_trans HG.out.size HL7.out)) (Nat.le_trans HGS.out (Nat.le_trans HG.out.size HL8.out)) (Nat.le_trans HGS.out (Nat.le_trans HG.out.size HLP.out)) HVV.out,grown_trans HG.out hHeld2,rfl,rfl,hgw.size,new_own (Nat.le_trans HG.out.size HL7.out) (Nat.le_trans HG.out.size HL8.out) (Nat.le_trans HG.out.size HLP.out)⟩
  ·skip
   go_simp
   try rw [hmm]
   try go_simp
   obtain ⟨w20,hnw20⟩:∃ w',w1.alloc (.map #[] 0)=w':=⟨_,rfl⟩
   have hgw20:w1.grownBy w20 none:=by rw [← hnw20];exact grown_alloc (grown_refl _ _) _
   obtain ⟨B8,hm8⟩:∃ B,w1.heap.size=B:=⟨_,rfl⟩
   have hB8:w20.heap[B8]?=some (.map #[] 0):=by rw [← hnw20,← hm8];exact heap_alloc_new _ _
   have HL8:Hid (wb.heap.size ≤ B8):=qh (by rw [← hm8];exact hHeld.size)
   rw [hnw20,hm8]
   clear hnw20 hm8
   have HB8:=qh hB8
   clear hB8
   replace HBP:=qh (row_up HBP.out hgw20)
   have hgT:=grown_trans hHeld hgw20
   refine hK.out _ _ hgT (fun hHeld=>?_)
   clear hK K hgT hgw20
   try simp only [lay]
   refine wpAnyH_ready (rs:=[4,6]) (by kernel_rfl) (by simp) ?_
   refine (ac rfl (fun K hK=>?_) (ac rfl (fun K hK=>?_) AllReadyH.nil))
   ·skip
    go_simp
    obtain ⟨w21,hnw21⟩:∃ w',w20.alloc (.cells #[.int .i64 (-1),.int .u32 0] 58)=w':=⟨_,rfl⟩
    have hgw21:w20.grownBy w21 none:=by rw [← hnw21];exact grown_alloc (grown_refl _ _) _
    obtain ⟨B4,hm4⟩:∃ B,w20.heap.size=B:=⟨_,rfl⟩
    have hB4:w21.heap[B4]?=some (.cells #[.int .i64 (-1),.int .u32 0] 58 (0,0)):=by rw [← hnw21,← hm4];exact heap_alloc_new _ _
    have HL4:Hid (wb.heap.size ≤ B4):=qh (by rw [← hm4];exact hHeld.size)
    rw [hnw21,hm4]
    clear hnw21 hm4
    have HB4:=qh hB4
    clear hB4
    replace HBP:=qh (row_up HBP.out hgw21)
    replace HB8:=qh (row_up HB8.out hgw21)
    have hgT:=grown_trans hHeld hgw21
    refine hK.out _ _ hgT (fun hHeld=>?_)
    clear hK K hgT hgw21
    try simp only [lay]
    refine wpAnyH_ready (rs:=[6]) (by kernel_rfl) (by simp) ?_
    refine (ac rfl (fun K hK=>?_) AllReadyH.nil)
    go_simp
    (with_reducible refine (HD.out _ hHeld).mono ?_);rintro e w22 ⟨rfl,hgw22⟩
    go_wp2_with fail
    replace HBP:=qh (row_up HBP.out hgw22)
    replace HB8:=qh (row_up HB8.out hgw22)
    replace HB4:=qh (row_up HB4.out hgw22)
    have hgT:=grown_trans hHeld hgw22
    refine hK.out _ _ hgT (fun hHeld=>?_)
    clear hK K hgT hgw22
    try simp only [lay]
    refine wpAnyH_ready (rs:=[7]) (by kernel_rfl) (by simp) ?_
    refine (ac rfl (fun K hK=>?_) AllReadyH.nil)
    go_simp
    (with_reducible refine (HRP.out _ _ HB4.out).mono ?_);rintro e w23 ⟨rfl,hB7,hgw23⟩
    obtain ⟨B7,hn7⟩:∃ B,w22.heap.size=B:=⟨_,rfl⟩
    rw [hn7] at hB7 ⊢
    have HL7:Hid (wb.heap.size ≤ B7):=qh (by rw [← hn7];exact hHeld.size)
    clear hn7
    have HB7:=qh hB7
    clear hB7
    go_wp2_with fail
    replace HBP:=qh (row_up HBP.out hgw23)
    replace HB8:=qh (row_up HB8.out hgw23)
    replace HB4:=qh (row_up HB4.out hgw23)
    have hgT:=grown_trans hHeld hgw23
    refine hK.out _ _ hgT (fun hHeld=>?_)
    clear hK K hgT hgw23
    try simp only [lay]
    refine tl 10 ?_ rfl ?_ ?_ ?_
    (rotate_left;(next=>((intro w0 hSw;go_simp);try (with_reducible rfl)));next=>rfl)
    try simp only [lay]
    refine rd 11 rfl fun K hK=>?_
    go_simp
    refine hK.out _ _ (grown_alloc hHeld _) (fun hHeld2=>?_)
    clear hK K
    try simp only [lay]
    refine wpAnyH_take (i:=13) (oi:=⟨some 4,Op.assign (Operand.tmp 41),_,_,_,_⟩) (v:=?v51) rfl (by kernel_rfl) (by kernel_rfl) (by kernel_rfl) (fun _ _ _ h=>h) (Or.inl ⟨by rfl,?hy51⟩) hHeld2 ?rest51
    case hy51=>((intro w0 hSw;go_simp);try (with_reducible rfl))
    try simp only [lay]
    refine wpAnyH_take (i:=14) (oi:=⟨some 5,Op.assign (Operand.tmp 42),_,_,_,_⟩) (v:=?v52) rfl (by kernel_rfl) (by kernel_rfl) (by kernel_rfl) (fun _ _ _ h=>h) (Or.inl ⟨by rfl,?hy52⟩) hHeld2 ?rest52
    case hy52=>((intro w0 hSw;go_simp);try (with_reducible rfl))
    try simp only [lay]
    refine wpAnyH_done (by kernel_rfl) ?_ _
    go_wp2_with fail
    go_ret2
    have hgw:=grown_trans HG.out hHeld
    exact ⟨_,_,rfl,home_new (HMK.out _ hgw) HMM.out HLL.out HNN.out HN2.out HB7.out HB8.out HBP.out (Nat.le_trans HGS.out (Nat.le_trans HG.out.size HL7.out)) (Nat.le_trans HGS.out (Nat.le_trans HG.out.size HL8.out)) (Nat.le_trans HGS.out (Nat.le_trans HG.out.size HLP.out)) HVV.out,grown_trans HG.out hHeld2,rfl,rfl,hgw.size,new_own (Nat.le_trans HG.out.size HL7.out) (Nat.le_trans HG.out.size HL8.out) (Nat.le_trans HG.out.size HLP.out)⟩
   ·skip
    go_simp
    (with_reducible refine (HD.out _ hHeld).mono ?_);rintro e w24 ⟨rfl,hgw24⟩
    go_wp2_with fail
    replace HBP:=qh (row_up HBP.out hgw24)
    replace HB8:=qh (row_up HB8.out hgw24)
    have hgT:=grown_trans hHeld hgw24
    refine hK.out _ _ hgT (fun hHeld=>?_)
    clear hK K hgT hgw24
    try simp only [lay]
    refine wpAnyH_ready (rs:=[4]) (by kernel_rfl) (by simp) ?_
    refine (ac rfl (fun K hK=>?_) AllReadyH.nil)
    go_simp
    obtain ⟨w25,hnw25⟩:∃ w',w24.alloc (.cells #[.int .i64 (-1),.int .u32 0] 58)=w':=⟨_,rfl⟩
    have hgw25:w24.grownBy w25 none:=by rw [← hnw25];exact grown_alloc (grown_refl _ _) _
    obtain ⟨B4,hm4⟩:∃ B,w24.heap.size=B:=⟨_,rfl⟩
    have hB4:w25.heap[B4]?=some (.cells #[.int .i64 (-1),.int .u32 0] 58 (0,0)):=by rw [← hnw25,← hm4];exact heap_alloc_new _ _
    have HL4:Hid (wb.heap.size ≤ B4):=qh (by rw [← hm4];exact hHeld.size)
    rw [hnw25,hm4]
    clear hnw25 hm4
    have HB4:=qh hB4
    clear hB4
    replace HBP:=qh (row_up HBP.out hgw25)
    replace HB8:=qh (row_up HB8.out hgw25)
    have hgT:=grown_trans hHeld hgw25
    refine hK.out _ _ hgT (fun hHeld=>?_)
    clear hK K hgT hgw25
    try simp only [lay]
    refine wpAnyH_ready (rs:=[7]) (by kernel_rfl) (by simp) ?_
    refine (ac rfl (fun K hK=>?_) AllReadyH.nil)
    go_simp
    (with_reducible refine (HRP.out _ _ HB4.out).mono ?_);rintro e w26 ⟨rfl,hB7,hgw26⟩
    obtain ⟨B7,hn7⟩:∃ B,w25.heap.size=B:=⟨_,rfl⟩
    rw [hn7] at hB7 ⊢
    have HL7:Hid (wb.heap.size ≤ B7):=qh (by rw [← hn7];exact hHeld.size)
    clear hn7
    have HB7:=qh hB7
    clear hB7
    go_wp2_with fail
    replace HBP:=qh (row_up HBP.out hgw26)
    replace HB8:=qh (row_up HB8.out hgw26)
    replace HB4:=qh (row_up HB4.out hgw26)
    have hgT:=grown_trans hHeld hgw26
    refine hK.out _ _ hgT (fun hHeld=>?_)
    clear hK K hgT hgw26
    try simp only [lay]
    refine tl 10 ?_ rfl ?_ ?_ ?_
    (rotate_left;(next=>((intro w0 hSw;go_simp);try (with_reducible rfl)));next=>rfl)
    try simp only [lay]
    refine rd 11 rfl fun K hK=>?_
    go_simp
    refine hK.out _ _ (grown_alloc hHeld _) (fun hHeld2=>?_)
    clear hK K
    try simp only [lay]
    refine wpAnyH_take (i:=13) (oi:=⟨some 4,Op.assign (Operand.tmp 41),_,_,_,_⟩) (v:=?v54) rfl (by kernel_rfl) (by kernel_rfl) (by kernel_rfl) (fun _ _ _ h=>h) (Or.inl ⟨by rfl,?hy54⟩) hHeld2 ?rest54
    case hy54=>((intro w0 hSw;go_simp);try (with_reducible rfl))
    try simp only [lay]
    refine wpAnyH_take (i:=14) (oi:=⟨some 5,Op.assign (Operand.tmp 42),_,_,_,_⟩) (v:=?v55) rfl (by kernel_rfl) (by kernel_rfl) (by kernel_rfl) (fun _ _ _ h=>h) (Or.inl ⟨by rfl,?hy55⟩) hHeld2 ?rest55
    case hy55=>((intro w0 hSw;go_simp);try (with_reducible rfl))
    try simp only [lay]
    refine wpAnyH_done (by kernel_rfl) ?_ _
    go_wp2_with fail
    go_ret2
    have hgw:=grown_trans HG.out hHeld
    exact ⟨_,_,rfl,home_new (HMK.out _ hgw) HMM.out HLL.out HNN.out HN2.out HB7.out HB8.out HBP.out (Nat.le_trans HGS.out (Nat.le_trans HG.out.size HL7.out)) (Nat.le_trans HGS.out (Nat.le_trans HG.out.size HL8.out)) (Nat.le_trans HGS.out (Nat.le_trans HG.out.size HLP.out)) HVV.out,grown_trans HG.out hHeld2,rfl,rfl,hgw.size,new_own (Nat.le_trans HG.out.size HL7.out) (Nat.le_trans HG.out.size HL8.out) (Nat.le_trans HG.out.size HLP.out)⟩
 ·skip
  go_simp
  try rw [hmm]
  try go_simp
  obtain ⟨w27,hnw27⟩:∃ w',wd6.alloc (.map #[] 0)=w':=⟨_,rfl⟩
  have hgw27:wd6.grownBy w27 none:=by rw [← hnw27];exact grown_alloc (grown_refl _ _) _
  obtain ⟨B8,hm8⟩:∃ B,wd6.heap.size=B:=⟨_,rfl⟩
  have hB8:w27.heap[B8]?=some (.map #[] 0):=by rw [← hnw27,← hm8];exact heap_alloc_new _ _
  have HL8:Hid (wb.heap.size ≤ B8):=qh (by rw [← hm8];exact hHeld.size)
  rw [hnw27,hm8]
  clear hnw27 hm8
  have HB8:=qh hB8
  clear hB8
  replace HBP:=qh (row_up HBP.out hgw27)
  have hgT:=grown_trans hHeld hgw27
  refine hK.out _ _ hgT (fun hHeld=>?_)
  clear hK K hgT hgw27
  try simp only [lay]
  refine wpAnyH_ready (rs:=[3]) (by kernel_rfl) (by simp) ?_
  refine (ac rfl (fun K hK=>?_) AllReadyH.nil)
  go_simp
  (with_reducible refine (HF.out _).mono ?_);rintro e w28 ⟨rfl,hgw28⟩
  go_wp2_with fail
  replace HBP:=qh (row_up HBP.out hgw28)
  replace HB8:=qh (row_up HB8.out hgw28)
  have hgT:=grown_trans hHeld hgw28
  refine hK.out _ _ hgT (fun hHeld=>?_)
  clear hK K hgT hgw28
  try simp only [lay]
  refine wpAnyH_ready (rs:=[4,6]) (by kernel_rfl) (by simp) ?_
  refine (ac rfl (fun K hK=>?_) (ac rfl (fun K hK=>?_) AllReadyH.nil))
  ·skip
   go_simp
   obtain ⟨w29,hnw29⟩:∃ w',w28.alloc (.cells #[.int .i64 (-1),.int .u32 0] 58)=w':=⟨_,rfl⟩
   have hgw29:w28.grownBy w29 none:=by rw [← hnw29];exact grown_alloc (grown_refl _ _) _
   obtain ⟨B4,hm4⟩:∃ B,w28.heap.size=B:=⟨_,rfl⟩
   have hB4:w29.heap[B4]?=some (.cells #[.int .i64 (-1),.int .u32 0] 58 (0,0)):=by rw [← hnw29,← hm4];exact heap_alloc_new _ _
   have HL4:Hid (wb.heap.size ≤ B4):=qh (by rw [← hm4];exact hHeld.size)
   rw [hnw29,hm4]
   clear hnw29 hm4
   have HB4:=qh hB4
   clear hB4
   replace HBP:=qh (row_up HBP.out hgw29)
   replace HB8:=qh (row_up HB8.out hgw29)
   have hgT:=grown_trans hHeld hgw29
   refine hK.out _ _ hgT (fun hHeld=>?_)
   clear hK K hgT hgw29
   try simp only [lay]
   refine wpAnyH_ready (rs:=[6]) (by kernel_rfl) (by simp) ?_
   refine (ac rfl (fun K hK=>?_) AllReadyH.nil)
   go_simp
   (with_reducible refine (HD.out _ hHeld).mono ?_);rintro e w30 ⟨rfl,hgw30⟩
   go_wp2_with fail
   replace HBP:=qh (row_up HBP.out hgw30)
   replace HB8:=qh (row_up HB8.out hgw30)
   replace HB4:=qh (row_up HB4.out hgw30)
   have hgT:=grown_trans hHeld hgw30
   refine hK.out _ _ hgT (fun hHeld=>?_)
   clear hK K hgT hgw30
   try simp only [lay]
   refine wpAnyH_ready (rs:=[7]) (by kernel_rfl) (by simp) ?_
   refine (ac rfl (fun K hK=>?_) AllReadyH.nil)
   go_simp
   (with_reducible refine (HRP.out _ _ HB4.out).mono ?_);rintro e w31 ⟨rfl,hB7,hgw31⟩
   obtain ⟨B7,hn7⟩:∃ B,w30.heap.size=B:=⟨_,rfl⟩
   rw [hn7] at hB7 ⊢
   have HL7:Hid (wb.heap.size ≤ B7):=qh (by rw [← hn7];exact hHeld.size)
   clear hn7
   have HB7:=qh hB7
   clear hB7
   go_wp2_with fail
   replace HBP:=qh (row_up HBP.out hgw31)
   replace HB8:=qh (row_up HB8.out hgw31)
   replace HB4:=qh (row_up HB4.out hgw31)
   have hgT:=grown_trans hHeld hgw31
   refine hK.out _ _ hgT (fun hHeld=>?_)
   clear hK K hgT hgw31
   try simp only [lay]
   refine tl 10 ?_ rfl ?_ ?_ ?_
   (rotate_left;(next=>((intro w0 hSw;go_simp);try (with_reducible rfl)));next=>rfl)
   try simp only [lay]
   refine rd 11 rfl fun K hK=>?_
   go_simp
   refine hK.out _ _ (grown_alloc hHeld _) (fun hHeld2=>?_)
   clear hK K
   try simp only [lay]
   refine wpAnyH_take (i:=13) (oi:=⟨some 4,Op.assign (Operand.tmp 41),_,_,_,_⟩) (v:=?v57) rfl (by kernel_rfl) (by kernel_rfl) (by kernel_rfl) (fun _ _ _ h=>h) (Or.inl ⟨by rfl,?hy57⟩) hHeld2 ?rest57
   case hy57=>((intro w0 hSw;go_simp);try (with_reducible rfl))
   try simp only [lay]
   refine wpAnyH_take (i:=14) (oi:=⟨some 5,Op.assign (Operand.tmp 42),_,_,_,_⟩) (v:=?v58) rfl (by kernel_rfl) (by kernel_rfl) (by kernel_rfl) (fun _ _ _ h=>h) (Or.inl ⟨by rfl,?hy58⟩) hHeld2 ?rest58
   case hy58=>((intro w0 hSw;go_simp);try (with_reducible rfl))
   try simp only [lay]
   refine wpAnyH_done (by kernel_rfl) ?_ _
   go_wp2_with fail
   go_ret2
   have hgw:=grown_trans HG.out hHeld
   exact ⟨_,_,rfl,home_new (HMK.out _ hgw) HMM.out HLL.out HNN.out HN2.out HB7.out HB8.out HBP.out (Nat.le_trans HGS.out (Nat.le_trans HG.out.size HL7.out)) (Nat.le_trans HGS.out (Nat.le_trans HG.out.size HL8.out)) (Nat.le_trans HGS.out (Nat.le_trans HG.out.size HLP.out)) HVV.out,grown_trans HG.out hHeld2,rfl,rfl,hgw.size,new_own (Nat.le_trans HG.out.size HL7.out) (Nat.le_trans HG.out.size HL8.out) (Nat.le_trans HG.out.size HLP.out)⟩
  ·skip
   go_simp
   (with_reducible refine (HD.out _ hHeld).mono ?_);rintro e w32 ⟨rfl,hgw32⟩
   go_wp2_with fail
   replace HBP:=qh (row_up HBP.out hgw32)
   replace HB8:=qh (row_up HB8.out hgw32)
   have hgT:=grown_trans hHeld hgw32
   refine hK.out _ _ hgT (fun hHeld=>?_)
   clear hK K hgT hgw32
   try simp only [lay]
   refine wpAnyH_ready (rs:=[4]) (by kernel_rfl) (by simp) ?_
   refine (ac rfl (fun K hK=>?_) AllReadyH.nil)
   go_simp
   obtain ⟨w33,hnw33⟩:∃ w',w32.alloc (.cells #[.int .i64 (-1),.int .u32 0] 58)=w':=⟨_,rfl⟩
   have hgw33:w32.grownBy w33 none:=by rw [← hnw33];exact grown_alloc (grown_refl _ _) _
   obtain ⟨B4,hm4⟩:∃ B,w32.heap.size=B:=⟨_,rfl⟩
   have hB4:w33.heap[B4]?=some (.cells #[.int .i64 (-1),.int .u32 0] 58 (0,0)):=by rw [← hnw33,← hm4];exact heap_alloc_new _ _
   have HL4:Hid (wb.heap.size ≤ B4):=qh (by rw [← hm4];exact hHeld.size)
   rw [hnw33,hm4]
   clear hnw33 hm4
   have HB4:=qh hB4
   clear hB4
   replace HBP:=qh (row_up HBP.out hgw33)
   replace HB8:=qh (row_up HB8.out hgw33)
   have hgT:=grown_trans hHeld hgw33
   refine hK.out _ _ hgT (fun hHeld=>?_)
   clear hK K hgT hgw33
   try simp only [lay]
   refine wpAnyH_ready (rs:=[7]) (by kernel_rfl) (by simp) ?_
   refine (ac rfl (fun K hK=>?_) AllReadyH.nil)
   go_simp
   (with_reducible refine (HRP.out _ _ HB4.out).mono ?_);rintro e w34 ⟨rfl,hB7,hgw34⟩
   obtain ⟨B7,hn7⟩:∃ B,w33.heap.size=B:=⟨_,rfl⟩
   rw [hn7] at hB7 ⊢
   have HL7:Hid (wb.heap.size ≤ B7):=qh (by rw [← hn7];exact hHeld.size)
   clear hn7
   have HB7:=qh hB7
   clear hB7
   go_wp2_with fail
   replace HBP:=qh (row_up HBP.out hgw34)
   replace HB8:=qh (row_up HB8.out hgw34)
   replace HB4:=qh (row_up HB4.out hgw34)
   have hgT:=grown_trans hHeld hgw34
   refine hK.out _ _ hgT (fun hHeld=>?_)
   clear hK K hgT hgw34
   try simp only [lay]
   refine tl 10 ?_ rfl ?_ ?_ ?_
   (rotate_left;(next=>((intro w0 hSw;go_simp);try (with_reducible rfl)));next=>rfl)
   try simp only [lay]
   refine rd 11 rfl fun K hK=>?_
   go_simp
   refine hK.out _ _ (grown_alloc hHeld _) (fun hHeld2=>?_)
   clear hK K
   try simp only [lay]
   refine wpAnyH_take (i:=13) (oi:=⟨some 4,Op.assign (Operand.tmp 41),_,_,_,_⟩) (v:=?v60) rfl (by kernel_rfl) (by kernel_rfl) (by kernel_rfl) (fun _ _ _ h=>h) (Or.inl ⟨by rfl,?hy60⟩) hHeld2 ?rest60
   case hy60=>((intro w0 hSw;go_simp);try (with_reducible rfl))
   try simp only [lay]
   refine wpAnyH_take (i:=14) (oi:=⟨some 5,Op.assign (Operand.tmp 42),_,_,_,_⟩) (v:=?v61) rfl (by kernel_rfl) (by kernel_rfl) (by kernel_rfl) (fun _ _ _ h=>h) (Or.inl ⟨by rfl,?hy61⟩) hHeld2 ?rest61
   case hy61=>((intro w0 hSw;go_simp);try (with_reducible rfl))
   try simp only [lay]
   refine wpAnyH_done (by kernel_rfl) ?_ _
   go_wp2_with fail
   go_ret2
   have hgw:=grown_trans HG.out hHeld
   exact ⟨_,_,rfl,home_new (HMK.out _ hgw) HMM.out HLL.out HNN.out HN2.out HB7.out HB8.out HBP.out (Nat.le_trans HGS.out (Nat.le_trans HG.out.size HL7.out)) (Nat.le_trans HGS.out (Nat.le_trans HG.out.size HL8.out)) (Nat.le_trans HGS.out (Nat.le_trans HG.out.size HLP.out)) HVV.out,grown_trans HG.out hHeld2,rfl,rfl,hgw.size,new_own (Nat.le_trans HG.out.size HL7.out) (Nat.le_trans HG.out.size HL8.out) (Nat.le_trans HG.out.size HLP.out)⟩
end Go.Proofs.YtenhdijbcdkfbaaGreatDoor.hh
namespace Go.Proofs.YtenhdijbcdkfbaaGreatDoor.hh
set_option linter.unusedVariables false
set_option linter.unusedSimpArgs false
set_option maxRecDepth 1000000
set_option maxHeartbeats 16000000
open Go Go.ChangeShapes Go.WideShapes Go.ChangeAt Go.RowKit
open Go.Proofs.YtenhdijbcdkfbaaGreatDoor.tt (Nt Cfg fits net bare zd usd uses coreOf ok_ends MapAt mput mdel ik NPool NSl Turn flat na nt zn grown_alloc grown_refl grown_trans tyne lt_of)
open Go.Proofs.YtenhdijbcdkfbaaGreatDoor.en (En gets back asked asks free ask_parts may_parts ea)
open Go.Proofs.YtenhdijbcdkfbaaGreatDoor.mm (wi wo ones wo_lt)
theorem zen_cells:(Value.agg (et zen).toArray).cells.size=2:=by first | kernel_rfl | simp [Value.cells,et]
theorem en_nil_eq (w:World) (a:Option Addr) (n c n' c':Nat):(binOp .eql 52 (.slice a n c) (.slice none n' c')).run Tryz.prog w = .ok (.bool a.isNone) w:=Lib.run_eql_slice_nil w _ _ a n c n' c' Tryz.underlying52
theorem eclone_any (v:Value) (es:List En) (w:World) (hs:tt.Sl w 58 2 v es.length (flat et es)) (hl:es.length ≤ 65536) :
  Calls Tryz.prog 41 #[v] w fun e w'=>∃ v',e = .returned v'∧tt.Sl w' 58 2 v' es.length (flat et es)∧w.grownBy w' none∧∀ k,v'.ownBlock=some k→w.heap.size ≤ k:=by
 obtain ⟨i0,hi,hz0,hz1,hz2⟩:=info_parts infoEn
 have q50:=en_nil_eq
 have HS:=qh hs
 have HL:=qh hl
 rcases hs with ⟨rfl,h0,h⟩ | ⟨g,off,cap,cur,hv,_⟩
 ·have HX:=qh h
  have H0:=qh h0
  clear h h0 hl
  go_enter Tryz.func41,Tryz.ntmps41
  go_wp2
  go_ret
  refine ⟨_,rfl,?_,⟨rfl,rfl,rfl,Nat.le_refl _,fun _ _ _=>rfl⟩,fun k hk=>by simp [Value.ownBlock] at hk⟩
  exact HS.out
 ·obtain ⟨n0,hn0⟩:∃ n,n=es.length:=⟨_,rfl⟩
  rw [← hn0] at hv
  subst hv
  have HN:=qh hn0
  clear hl hn0
  go_enter Tryz.func41,Tryz.ntmps41
  go_wp2_with ((with_reducible refine tt.append_sl 52 58 2 i0 (.agg (et zen).toArray) 16 _ _ Tryz.underlying52 hi hz0 hz1 hz2 zen_cells (.slice (some ⟨w.heap.size,0,none⟩) 0 0) 0 [] ?_ (tt.Sl.empty w _ 2) (.slice (some ⟨g,off,none⟩) n0 cap) es.length (flat et es) ?_ ((HS.out.grown (grown_alloc (grown_refl _ _) _)).src Tryz.underlying52 (tt.flat_one et_one es)) ?_ ?_ ?_);(rfl);(rfl);(have:=HL.out;unfold maxLen;omega);(have:=HL.out;omega);(intro v' w2 hsl hgr hnx;rw [Nat.zero_add,List.nil_append] at hsl))
  go_ret
  refine ⟨v',rfl,hsl,⟨hgr.os,hgr.tape,hgr.output,?_,fun k hk _=>?_⟩,fun k hk=>?_⟩
  ·have:=hgr.size;simp at this;omega
  ·exact (hgr.block k (by simp;omega) (by simp [Value.ownBlock];omega)).trans (Below.heap_alloc _ _ _ hk)
  ·rcases hnx with h | h
   ·rw [h] at hk;simp [Value.ownBlock] at hk;omega
   ·have:=h k hk;simp at this;omega
theorem mclone_any (b:Nat) (f:Int→Option Value) (w:World) (hM:MapAt w b f) :
  Calls Tryz.prog 42 #[.map (some b)] w fun e w'=>e = .returned (.map (some w.heap.size))∧MapAt w' w.heap.size f∧w.grownBy w' none:=by
 obtain ⟨es,ck,hb,h1,h2⟩:=hM
 have hq:=fun w=>run_eql_map_nil_sl (P:=Tryz.prog) w 86 _ _ (some b) Tryz.underlying86
 have HB:=qh hb
 clear hb
 go_enter Tryz.func42,Tryz.ntmps42
 go_wp2
 rw [run_callFunc_extern Tryz.func66 (by kernel_rfl) (by kernel_rfl) (by kernel_rfl) (e:=Extern.MapsClone.clone) (by kernel_rfl),run_maps_clone_sl w 86 HB.out]
 simp only [Result.andThen]
 rw [Oper.upon_value]
 go_wp2
 rw [run_typeAssert_map_sl _ 86 _ _ _ _ Tryz.underlying86]
 simp only [Result.andThen]
 rw [Oper.upon_value]
 go_wp2
 go_ret
 exact ⟨rfl,⟨es,ck,heap_alloc_new _ _,h1,h2⟩,grown_alloc (grown_refl _ _) _⟩
theorem copy_nil (w:World):Calls Tryz.prog 12 #[.pointer none] w fun e w'=>e = .returned (.pointer none)∧w=w':=by
 go_enter Tryz.func12,Tryz.ntmps12
 go_wp2
 go_ret
 exact ⟨rfl,rfl⟩
theorem home_copy {wc:World} {c:Cfg} {F':Ft} {H:Hm} (hM:pp.Mem wc F'.mb F'.mv H.mm) (hE:tt.Sl wc 58 2 F'.ev H.en.length (flat et H.en)) (hU:MapAt wc F'.ub (hh.und H)) (hP:NPool wc F'.pb F'.pv (room c) H.wt) (hI:Inv c H)
  (hO:∀ (b:Nat) (j:Jb),H.jb[b]?=some (some j)→j.d=decide (j.w=0)) (hF:H.wt.length ≤ room c) (hL:∀ i,F'.own i→gs ≤ i) :
  HomeAt (wc.alloc (.cells #[.int .i64 c.co,.pointer (some ⟨F'.mb,0,none⟩),F'.ev,.map (some F'.ub),.pointer (some ⟨F'.pb,0,none⟩)] 88)) wc.heap.size c F' H:=by
 have hg:wc.grownBy (wc.alloc (.cells #[.int .i64 c.co,.pointer (some ⟨F'.mb,0,none⟩),F'.ev,.map (some F'.ub),.pointer (some ⟨F'.pb,0,none⟩)] 88)) none:=grown_alloc (grown_refl _ _) _
 exact ⟨heap_alloc_new _ _,hM.kept hg,hE.grown hg,hU.same (hg.block _ hU.lt (by simp)),hP.of_block (hg.block _ hP.lt (by simp)) (fun k e=>hg.block k (hP.sl.lt k e) (by simp)),hI,hO,hF,hL⟩
section
variable {w:World} {h:Nat} {c:Cfg} {F:Ft} {H:Hm}
theorem copy_any (A:HomeAt w h c F H):Calls Tryz.prog 12 #[.pointer (some ⟨h,0,none⟩)] w fun e w'=>∃ h' F',e = .returned (.pointer (some ⟨h',0,none⟩)) ∧
  HomeAt w' h' c F' H∧w.grownBy w' none∧w.heap.size ≤ h'∧w.heap.size ≤ F'.mb∧∀ i,F'.own i→w.heap.size ≤ i:=by
 have HA:Hid (∀ w',w.grownBy w' none→HomeAt w' h c F H):=qh fun w' h'=>A.grown h'
 have HK:Hid (∀ w',w.grownBy w' none→_):=qh fun w' h'=>(HA.out w' h').cells
 obtain ⟨ad,cap,hev⟩:=A.ent.form
 have hbl:H.mm.length ≤ 256:=by rw [A.inv.lm];have:=A.inv.may.fits.bl;omega
 have hel:H.en.length ≤ 65536:=by rw [A.inv.le];have:=data_le A.inv.may;have:=A.inv.may.fits.bl;omega
 have hfl:H.wt.length ≤ 65536:=by have:=A.full;have:=(room_le A.inv.may).2.1;omega
 have HMC:Hid (∀ w',w.grownBy w' none→_):=qh fun w' h'=>pp.copy_any F.mb F.mv H.mm w' (HA.out w' h').mem hbl
 have HEC:Hid (∀ w',w.grownBy w' none→_):=qh fun w' h'=>eclone_any F.ev H.en w' (HA.out w' h').ent hel
 have HUC:Hid (∀ w',w.grownBy w' none→_):=qh fun w' h'=>mclone_any F.ub (hh.und H) w' (HA.out w' h').und
 have HPC:Hid (∀ w',w.grownBy w' none→_):=qh fun w' h'=>tt.pcopy_any F.pb F.pv (room c) H.wt w' (HA.out w' h').pool hfl
 have HI:=qh A.inv
 have HO:=qh A.ok
 have HFU:=qh A.full
 have HGS:Hid (gs ≤ w.heap.size):=qh (by have:=A.low F.ub (.inr (.inr (.inl rfl)));have:=A.und.lt;omega)
 clear A hbl hel hfl hev ad cap
 obtain ⟨fmb,fmv,fev,fub,fpb,fpv⟩:=F
 dsimp only at *
 go_enter Tryz.func12,Tryz.ntmps12
 go_wp2_with fail
 refine wp_region_held_drew (S:=fun w'=>w.grownBy w' none) (by kernel_rfl) (tt.grown_drew (grown_refl _ _)) (fun hHeld=>?_)
 generalize w.drew=w0 at hHeld ⊢
 refine tl 0 ?_ rfl ?_ ?_ (tl 1 ?_ rfl ?_ ?_ (tl 2 ?_ rfl ?_ ?_ (tl 3 ?_ rfl ?_ ?_ (tl 4 ?_ rfl ?_ ?_ (tl 5 ?_ rfl ?_ ?_ (tl 6 ?_ rfl ?_ ?_ ?_))))))
 iterate 7 (rotate_left;(next=>(try simp only [lay]);((intro w0 hSw;obtain ⟨hs0,hs1,hs2,hs3,hs4⟩:=HK.out w0 hSw;go_simp);try (with_reducible rfl)));next=>rfl)
 try simp only [lay]
 refine tl 7 ?_ rfl ?_ ?_ (tl 9 ?_ rfl ?_ ?_ (tl 10 ?_ rfl ?_ ?_ (tl 11 ?_ rfl ?_ ?_ (tl 12 ?_ rfl ?_ ?_ (tl 14 ?_ rfl ?_ ?_ (tl 15 ?_ rfl ?_ ?_ ?_))))))
 iterate 7 (rotate_left;(next=>(try simp only [lay]);((intro w0 hSw;obtain ⟨hs0,hs1,hs2,hs3,hs4⟩:=HK.out w0 hSw;go_simp);try (with_reducible rfl)));next=>rfl)
 try simp only [lay]
 refine tl 16 ?_ rfl ?_ ?_ (tl 17 ?_ rfl ?_ ?_ (tl 19 ?_ rfl ?_ ?_ (tl 20 ?_ rfl ?_ ?_ (tl 21 ?_ rfl ?_ ?_ (tl 22 ?_ rfl ?_ ?_ ?_)))))
 iterate 6 (rotate_left;(next=>(try simp only [lay]);((intro w0 hSw;obtain ⟨hs0,hs1,hs2,hs3,hs4⟩:=HK.out w0 hSw;go_simp);try (with_reducible rfl)));next=>rfl)
 try simp only [lay]
 refine rd 8 rfl fun K hK=>?_
 go_simp
 (with_reducible refine (HMC.out _ hHeld).mono ?_);rintro e w1 ⟨mb,mv,rfl,hm,hgw1,hmb,hmv⟩;have HM:=qh hm;have HMB:=qh (Nat.le_trans hHeld.size hmb);have HMV:Hid (∀ k,mv.ownBlock=some k→w.heap.size ≤ k):=qh (fun k e=>Nat.le_trans hHeld.size (hmv k e));clear hm hmb hmv
 go_wp2_with fail
 have hgT:=grown_trans hHeld hgw1
 refine hK.out _ _ hgT (fun hHeld=>?_)
 clear hK K hgT hgw1
 try simp only [lay]
 refine rd 13 rfl fun K hK=>?_
 go_simp
 (with_reducible refine (HEC.out _ hHeld).mono ?_);rintro e w2 ⟨ev,rfl,he,hgw2,hev⟩;have HE:=qh he;have HEV:Hid (∀ k,ev.ownBlock=some k→w.heap.size ≤ k):=qh (fun k e=>Nat.le_trans hHeld.size (hev k e));clear hev;obtain ⟨ad2,cap2,hev2⟩:=he.form;clear he;subst hev2
 go_wp2_with fail
 have hgT:=grown_trans hHeld hgw2
 replace HM:=qh (HM.out.kept hgw2)
 refine hK.out _ _ hgT (fun hHeld=>?_)
 clear hK K hgT hgw2
 try simp only [lay]
 refine rd 18 rfl fun K hK=>?_
 go_simp
 (with_reducible refine (HUC.out _ hHeld).mono ?_);rintro e w3 ⟨rfl,hu,hgw3⟩;have HU:=qh hu;have HUB:=qh hHeld.size;clear hu;generalize w2.heap.size=ub at *
 go_wp2_with fail
 have hgT:=grown_trans hHeld hgw3
 replace HM:=qh (HM.out.kept hgw3)
 replace HE:=qh (HE.out.grown hgw3)
 refine hK.out _ _ hgT (fun hHeld=>?_)
 clear hK K hgT hgw3
 try simp only [lay]
 refine rd 23 rfl fun K hK=>?_
 go_simp
 (with_reducible refine (HPC.out _ hHeld).mono ?_);rintro e w4 ⟨pb,pv,rfl,hpb,hp,hgw4,hpv⟩;have HP:=qh hp;have HPB:=qh (Nat.le_trans hHeld.size hpb);have HPV:Hid (∀ k,pv.ownBlock=some k→w.heap.size ≤ k):=qh (fun k e=>Nat.le_trans hHeld.size (hpv k e));clear hp hpb hpv
 go_wp2_with fail
 have hgT:=grown_trans hHeld hgw4
 replace HM:=qh (HM.out.kept hgw4)
 replace HE:=qh (HE.out.grown hgw4)
 replace HU:=qh (HU.out.same (hgw4.block _ HU.out.lt (by simp)))
 refine hK.out _ _ hgT (fun hHeld=>?_)
 clear hK K hgT hgw4
 try simp only [lay]
 refine tl 24 ?_ rfl ?_ ?_ ?_
 (rotate_left;(next=>((intro w0 hSw;go_simp);try (with_reducible rfl)));next=>rfl)
 try simp only [lay]
 refine rd 25 rfl fun K hK=>?_
 go_simp
 refine hK.out _ _ (grown_alloc hHeld _) (fun hHeld2=>?_)
 clear hK K
 try simp only [lay]
 refine wpAnyH_take (i:=26) (oi:=⟨some 2,Op.assign (Operand.tmp 30),_,_,_,_⟩) (v:=?v22) rfl (by kernel_rfl) (by kernel_rfl) (by kernel_rfl) (fun _ _ _ h=>h) (Or.inl ⟨by rfl,?hy22⟩) hHeld2 ?rest22
 case hy22=>((intro w0 hSw;go_simp);try (with_reducible rfl))
 try simp only [lay]
 refine wpAnyH_done (by kernel_rfl) ?_ _
 go_wp2_with fail
 go_ret
 have hF':∀ i,(Ft.mk mb mv (.slice ad2 H.en.length cap2) ub pb pv).own i→w.heap.size ≤ i:=fun i hi=>by
  rcases hi with e | e | e | e | e
  ·exact HMV.out i e
  ·exact HEV.out i e
  ·rw [e];exact HUB.out
  ·rw [e];exact HPB.out
  ·exact HPV.out i e
 exact ⟨_,Ft.mk mb mv (.slice ad2 H.en.length cap2) ub pb pv,rfl,home_copy (F':=Ft.mk mb mv (.slice ad2 H.en.length cap2) ub pb pv) HM.out HE.out HU.out HP.out HI.out HO.out HFU.out (fun i hi=>Nat.le_trans HGS.out (hF' i hi)),grown_alloc hHeld _,hHeld.size,HMB.out,hF'⟩
end
end Go.Proofs.YtenhdijbcdkfbaaGreatDoor.hh
