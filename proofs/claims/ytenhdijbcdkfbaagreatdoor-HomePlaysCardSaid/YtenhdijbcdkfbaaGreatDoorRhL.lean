/-
 What Take of the document's home makes of it where an ask ends, where one waits: contract. No condition but what it names.
-/
import Derived.Test.YtenhdijbcdkfbaaGreatDoorTl
import Derived.Test.YtenhdijbcdkfbaaGreatDoorRhJ
import Derived.Test.YtenhdijbcdkfbaaGreatDoorRhK
import Derived.Test.YtenhdijbcdkfbaaGreatDoorHk
namespace Go.Proofs.YtenhdijbcdkfbaaGreatDoor.hh
set_option linter.unusedVariables false
set_option linter.unusedSimpArgs false
set_option maxRecDepth 1000000
set_option maxHeartbeats 16000000
open Go Go.ChangeShapes Go.WideShapes Go.ChangeAt Go.RowKit
open Go.Proofs.YtenhdijbcdkfbaaGreatDoor.tt (Nt Cfg fits net bare zd usd uses coreOf ok_ends MapAt mput mdel ik NSl flat na nt zn grown_alloc grown_refl grown_trans tyne lt_of)
open Go.Proofs.YtenhdijbcdkfbaaGreatDoor.en (En gets back asked asks free ask_parts may_parts ea)
open Go.Proofs.YtenhdijbcdkfbaaGreatDoor.mm (wi wo ones wo_lt)
section
variable {w:World} {h:Nat} {c:Cfg} {F:Fr} {H:Hm}
theorem rdid_wt {w6:World} {v2:Value} (g:w.grownBy w6 none) (hv:∀ k,v2.ownBlock=some k→w.heap.size ≤ k):RDid w (w6.setCell ⟨h,11,none⟩ v2) h F { F with wv:=v2 }:=
 ⟨g.os,g.tape,g.output,by have:=g.size;simpa [World.setCell] using this,fun i hi hn=>(Below.heap_setCell _ _ _ _ (fun e=>hn (.inl e))).trans (g.block i hi (by simp)),rfl,rfl,rfl,rfl,.inr hv⟩
theorem rtake_done (A:RefAt w h c F H) (n:Nt) (hr:ready c H n=0) (hk:n.k=11) (hl:H.wt.length ≤ 65536):Calls Tryz.prog 14 #[.pointer (some ⟨h,0,none⟩),.agg (na n)] w fun e w'=>∃ F' v,e = .returned (.tuple #[v,.int .i64 (take c H n).2.2])∧RefAt w' h c F' (take c H n).1∧NSl w' v (take c H n).2.1∧RDid w w' h F F'∧∀ k,v.ownBlock=some k→w.heap.size ≤ k∧¬ F'.own h k∧F'.wv.ownBlock ≠ some k:=by
 obtain ⟨wb,hwb⟩:∃ wb,w.alloc (.cells (na n) 45)=wb:=⟨_,rfl⟩
 have hgb:w.grownBy wb none:=by rw [← hwb];exact grown_alloc (grown_refl _ _) _
 have hbx:wb.heap[w.heap.size]?=some (.cells (na n) 45 (0,0)):=by rw [← hwb];exact heap_alloc_new _ _
 have HAB:=qh (A.grown hgb)
 have HRY:=qh (rready_any HAB.out n)
 have HX:Hid (∀ w',wb.grownBy w' none→w'.heap[w.heap.size]?=some (.cells (na n) 45 (0,0))):=qh fun w' h'=>(h'.block _ (lt_of hbx) (by simp)).trans hbx
 have HR:Hid (∀ w',wb.grownBy w' none→w'.rangeAt w.heap.size 0 (nt n)):=qh fun w' h'=>tt.range_of (HX.out w' h')
 have HG:=qh hgb
 obtain ⟨hf1,hf2⟩:=ready_fits hr
 rw [hr] at HRY
 obtain ⟨b,hbn⟩:∃ b:Nat,n.b=(b:Int):=⟨n.b.toNat,by have:=(blk_lt hf1).1;omega⟩
 have hb:b < c.data.toNat:=by have:=(blk_lt hf1).2;omega
 have HBT:n.b.toNat=b:=by omega
 have HTK:Hid (take c H n=((fin H b).1,(fin H b).2,0)):=qh (by rw [← HBT];exact take_done hr hk hf1)
 have HNB:=qh hbn
 have HNT:=qh (fun w'=>tt.rnet_any n.k w')
 have en0:(net n.k == 0)=false:=by
  have:¬ net n.k=0:=fun e=>by have:=(net_asks hf1.1.1).1 e;omega
  simpa using this
 have e11:(n.k == 11)=true:=by rw [hk];rfl
 have HH:Hid (∀ W,RefAt W h c F H→_):=qh fun W hA=>rend_any hA b hb hl
 rw [HTK.out]
 obtain ⟨nn,hnn⟩:∃ q,q=net n.k:=⟨_,rfl⟩
 rw [← hnn] at HNT en0
 clear A hbx hgb hr hf1 hf2 hk hbn HBT hb hl hnn
 go_enter Tryz.func14,Tryz.ntmps14
 go_wp2_with (first
  | ((with_reducible refine tt.load_nt n _ w.heap.size ?_ (HR.out _ (by first | exact grown_refl _ _ | exact HG1.out)) ?_);(rfl))
  | (go_at_call 11;((with_reducible refine HRY.out.mono ?_);rintro e w1 ⟨rfl,hg1⟩;have HG1:=qh hg1;have hr1:=HR.out w1 hg1;have n0:=tt.cell_at hr1 0 _ rfl;have n3:=tt.cell_at hr1 3 _ rfl;rw [HNB.out] at n3;have HA1:=qh (HAB.out.grown hg1);clear hg1 hr1))
  | (go_at_call 38;((with_reducible refine (HNT.out _).mono ?_);rintro e w2 ⟨rfl,rfl⟩))
  | (go_at_call 49;((with_reducible refine (HH.out _ HA1.out).mono ?_);rintro e w3 ⟨F3,v,rfl,hA3,hS3,hD3,hf3⟩;have HA3:=qh hA3;have HS3:=qh hS3;have HD3:=qh hD3;have HF3:=qh hf3;clear hA3 hS3 hD3 hf3)))
 go_ret2
 have hg:=grown_trans HG.out HG1.out
 exact ⟨F3,v,rfl,HA3.out,HS3.out,(RDid.of_grown h F hg).trans HD3.out,fun k hk=>⟨Nat.le_trans hg.size (HF3.out k hk).1,(HF3.out k hk).2⟩⟩
theorem rtake_wait (A:RefAt w h c F H) (n:Nt) (hr:ready c H n=0) (hk:n.k=1 ∨ n.k=2 ∨ n.k=3) (hj:(jbOf H n.b.toNat).isSome=true) (hl:H.wt.length ≤ 65536):Calls Tryz.prog 14 #[.pointer (some ⟨h,0,none⟩),.agg (na n)] w fun e w'=>∃ F' v,e = .returned (.tuple #[v,.int .i64 (take c H n).2.2])∧RefAt w' h c F' (take c H n).1∧NSl w' v (take c H n).2.1∧RDid w w' h F F'∧∀ k,v.ownBlock=some k→w.heap.size ≤ k∧¬ F'.own h k∧F'.wv.ownBlock ≠ some k:=by
 obtain ⟨wb,hwb⟩:∃ wb,w.alloc (.cells (na n) 45)=wb:=⟨_,rfl⟩
 have hgb:w.grownBy wb none:=by rw [← hwb];exact grown_alloc (grown_refl _ _) _
 have hbx:wb.heap[w.heap.size]?=some (.cells (na n) 45 (0,0)):=by rw [← hwb];exact heap_alloc_new _ _
 have HAB:=qh (A.grown hgb)
 have HRY:=qh (rready_any HAB.out n)
 have HX:Hid (∀ w',wb.grownBy w' none→w'.heap[w.heap.size]?=some (.cells (na n) 45 (0,0))):=qh fun w' h'=>(h'.block _ (lt_of hbx) (by simp)).trans hbx
 have HR:Hid (∀ w',wb.grownBy w' none→w'.rangeAt w.heap.size 0 (nt n)):=qh fun w' h'=>tt.range_of (HX.out w' h')
 have HG:=qh hgb
 obtain ⟨hf1,hf2⟩:=ready_fits hr
 rw [hr] at HRY
 obtain ⟨b,hbn⟩:∃ b:Nat,n.b=(b:Int):=⟨n.b.toNat,by have:=(blk_lt hf1).1;omega⟩
 have HBT:n.b.toNat=b:=by omega
 have HNB:=qh hbn
 have hna:net n.k=0:=(net_asks hf1.1.1).2 hk
 have hask:Asks c n:=⟨hf1,hf2,hna⟩
 rw [HBT] at hj
 have HNT:=qh (fun w'=>tt.rnet_any n.k w')
 rw [hna] at HNT
 have hbj:b < H.jb.length:=by rw [A.inv.lj,← HBT];exact (blk_lt hf1).2
 obtain ⟨gj,oj,cj,hjv,_,_⟩:=A.jobAt hbj
 have HJ:Hid (∀ w',wb.grownBy w' none→w'.cell? ⟨h,10,none⟩=some (.slice (some ⟨gj,oj,none⟩) H.jb.length cj)∧w'.cell? ⟨gj,oj + b * 29,none⟩=some (.bool (jbOf H b).isSome)):=qh fun w' h'=>by
  have hA:=HAB.out.grown h'
  obtain ⟨g',o',c',e',_,hc'⟩:=hA.jobAt hbj
  rw [hjv] at e';cases e'
  exact ⟨by rw [hA.parts.2.2.1,hjv],hc' 0 _ (jt_is _)⟩
 rw [hj] at HJ
 obtain ⟨q,hq⟩:∃ q,q=H.jb.length:=⟨_,rfl⟩
 have hlt:(b:Int) < (q:Int):=by omega
 have hle:(0:Int) ≤ (b:Int):=by omega
 rw [← hq] at HJ
 have HTK:Hid (take c H n=({ H with wt:=H.wt ++ [n] },[],0)):=qh (by
  unfold take
  rw [if_neg (fun e=>e hr),if_pos hna,HBT,hj]
  rfl)
 have HIN:Hid (Inv c { H with wt:=H.wt ++ [n] }):=qh (A.inv.waits _ fun m hm=>by
  rcases List.mem_append.1 hm with hm | hm
  ·exact A.inv.wait m hm
  ·rw [List.mem_singleton.1 hm];exact hask)
 have HL:=qh hl
 have HHW:Hid (h < w.heap.size):=qh A.lt
 obtain ⟨i0,hi,hz0,hz1,hz2⟩:=info_parts tt.infoN
 obtain ⟨tN,mN,HTN,haggN,hsizeN,hldN⟩:=tt.named
 have HLD:=qh hldN
 rw [HTK.out]
 clear A hbx hgb hr hf1 hf2 hk hbn HBT hna hask hj hbj hjv hq hl hldN
 go_enter Tryz.func14,Tryz.ntmps14
 go_wp2_with (first
  | ((with_reducible refine tt.load_nt n _ w.heap.size ?_ (HR.out _ (by first | exact grown_refl _ _ | exact HG1.out)) ?_);(rfl))
  | (go_at_call 11;((with_reducible refine HRY.out.mono ?_);rintro e w1 ⟨rfl,hg1⟩;have HG1:=qh hg1;have hr1:=HR.out w1 hg1;have n0:=tt.cell_at hr1 0 _ rfl;have n3:=tt.cell_at hr1 3 _ rfl;rw [HNB.out] at n3;obtain ⟨j1,j2⟩:=HJ.out w1 hg1;have HA1:=qh (HAB.out.grown hg1);clear hg1 hr1))
  | (go_at_call 38;((with_reducible refine (HNT.out _).mono ?_);rintro e w2 ⟨rfl,rfl⟩)))
 rw [HTN.out]
 have HWN:Hid (NSl w2 F.wv H.wt):=qh HA1.out.wt
 have HBX1:=qh (HX.out w2 HG1.out)
 obtain ⟨aw,cw,hwv⟩:=HWN.out.form
 obtain ⟨lw,hlw⟩:∃ q,q=H.wt.length:=⟨_,rfl⟩
 rw [← hlw] at hwv
 have HLW:=qh hlw
 have HWV:=qh hwv
 have HS:Hid (∀ w',w2.grownBy w' none→w'.cell? ⟨h,11,none⟩=some (.slice aw lw cw)∧(loadCellsFrom ⟨w.heap.size,0,none⟩ 0 mN #[]).run Tryz.prog w' = .ok (na n) w'):=qh fun w' h'=>⟨by rw [(HA1.out.grown h').parts.2.2.2,HWV.out],HLD.out _ n w' (tt.range_of ((h'.block _ (lt_of HBX1.out) (by simp)).trans HBX1.out))⟩
 have hn1:=tt.na_size n
 have hn2:=tt.build_na n
 have HGW:=qh (grown_trans HG.out HG1.out)
 clear hwv hlw
 refine wp_region_held_drew (S:=fun w'=>(loadCellsFrom ⟨w.heap.size,0,none⟩ 0 mN #[]).run Tryz.prog w' = .ok (na n) w') (by kernel_rfl) (HS.out _ (tt.grown_drew (grown_refl _ _))).2 (fun hHeld=>?_)
 have HG0:=qh (tt.grown_drew (grown_refl w2 none))
 generalize hwy:w2.drew=wy at HG0 hHeld ⊢
 clear hwy
 refine tl 0 ?_ rfl ?_ ?_ (tl 2 ?_ rfl ?_ ?_ (tl 3 ?_ rfl ?_ ?_ (tl 4 ?_ rfl ?_ ?_ (tl 7 ?_ rfl ?_ ?_ ?_))))
 iterate 5 (rotate_left;(next=>(try simp only [lay]);((intro w0 hSw;have hs1:=hSw;go_simp);try (with_reducible rfl)));next=>rfl)
 try simp only [lay]
 refine wpAnyH_ready (rs:=[1,5,8]) (by kernel_rfl) (by simp) ?_
 refine (ac rfl (fun K hK=>?_) (ac rfl (fun K hK=>?_) (ac rfl (fun K hK=>?_) AllReadyH.nil)))
 ·skip
  have HG1:Hid (w2.grownBy (wy.alloc (.cells #[] 45)) none):=qh (grown_alloc HG0.out _)
  have HS1:Hid (tt.Sl (wy.alloc (.cells #[] 45)) 45 24 (.slice (some ⟨wy.heap.size,0,none⟩) 0 0) 0 []):=qh (by have:=tt.Sl.empty wy 45 24;exact this)
  have HB1:Hid (w2.heap.size ≤ wy.heap.size):=qh (by have:=HG0.out.size;exact this)
  go_simp
  refine hK.out _ _ (HS.out _ HG1.out).2 (fun hHeld=>?_)
  clear hK K
  try simp only [lay]
  refine wpAnyH_ready (rs:=[5,8]) (by kernel_rfl) (by simp) ?_
  refine (ac rfl (fun K hK=>?_) (ac rfl (fun K hK=>?_) AllReadyH.nil))
  ·skip
   have hc11:=(HS.out _ HG1.out).1
   go_simp
   refine hK.out _ _ (HS.out _ HG1.out).2 (fun hHeld=>?_)
   clear hc11
   clear hK K
   try simp only [lay]
   refine wpAnyH_ready (rs:=[6,8]) (by kernel_rfl) (by simp) ?_
   refine (ac rfl (fun K hK=>?_) (ac rfl (fun K hK=>?_) AllReadyH.nil))
   ·skip
    refine tt.step_append_sl rfl (Operand.tmp 35) (Operand.tmp 39) 24 24 rfl 45 24 i0 (.agg (na zn)) 112 Tryz.underlying24 hi hz0 hz1 hz2 tt.zn_cells (.slice (some ⟨wy.heap.size,0,none⟩) 0 0) 0 [] rfl HS1.out H.wt.length (flat nt H.wt) (by have:=(HWN.out.grown HG1.out).src Tryz.underlying24 (tt.nflat_one H.wt);rw [HWV.out] at this;exact this) (by have:=HL.out;unfold maxLen;omega) (by have:=HL.out;omega) ?_
    intro v3 w103 hsl3 hgr3 hnx3
    rw [Nat.zero_add,List.nil_append] at hsl3
    have HG3:Hid (w2.grownBy w103 none):=qh (grown_newR HG1.out (fun k e=>by cases e;exact HB1.out) hgr3)
    have HT3:Hid (tt.Sl w103 45 24 v3 H.wt.length (flat nt H.wt)):=qh hsl3
    have HV3:Hid (∀ k,v3.ownBlock=some k→w2.heap.size ≤ k):=qh (hnx3.ge HG1.out.size (fun k e=>by cases e;exact HB1.out))
    clear hgr3 hnx3 hsl3
    refine hK.out _ _ (HS.out _ HG3.out).2 (fun hHeld=>?_)
    clear hK K
    try simp only [lay]
    refine wpAnyH_ready (rs:=[8]) (by kernel_rfl) (by simp) ?_
    refine (ac rfl (fun K hK=>?_) AllReadyH.nil)
    ·skip
     have HG4:Hid (w2.grownBy (w103.alloc (.cells (na n) 45)) none):=qh (grown_alloc HG3.out _)
     have HH4:Hid ((w103.alloc (.cells (na n) 45)).heap[w103.heap.size]?=some (.cells (na n) 45 (0,0))):=qh (by have:=heap_alloc_new w103 (.cells (na n) 45);exact this)
     have HT4:=qh (HT3.out.grown (grown_alloc (grown_refl w103 none) (.cells (na n) 45)))
     go_simp
     refine hK.out _ _ (HS.out _ HG4.out).2 (fun hHeld=>?_)
     clear hK K
     try simp only [lay]
     refine wpAnyH_ready (rs:=[9]) (by kernel_rfl) (by simp) ?_
     refine (ac rfl (fun K hK=>?_) AllReadyH.nil)
     ·skip
      refine tt.step_append_sl rfl (Operand.tmp 40) (Operand.tmp 42) 24 24 rfl 45 24 i0 (.agg (na zn)) 112 Tryz.underlying24 hi hz0 hz1 hz2 tt.zn_cells v3 H.wt.length (flat nt H.wt) rfl HT4.out 1 (nt n) (tt.src_one' _ (w103.heap.size) (na n) _ (nt n) 24 Tryz.underlying24 HH4.out rfl (tt.nt_len n) (tt.nt_one n)) (by have:=HL.out;unfold maxLen;omega) (by have:=HL.out;omega) ?_
      intro v5 w105 hsl5 hgr5 hnx5
      have HG5:Hid (w2.grownBy w105 none):=qh (grown_newR HG4.out HV3.out hgr5)
      have HT5:=qh hsl5
      have HV5:=qh (hnx5.ge HG4.out.size HV3.out)
      clear hgr5 hnx5 hsl5
      refine hK.out _ _ (HS.out _ HG5.out).2 (fun hHeld=>?_)
      clear hK K
      try simp only [lay]
      refine tl 10 ?_ rfl ?_ ?_ (tl 11 ?_ rfl ?_ ?_ ?_)
      iterate 2 (rotate_left;(next=>(try simp only [lay]);((intro w0 hSw;go_simp);try (with_reducible rfl)));next=>rfl)
      try simp only [lay]
      obtain ⟨ad9,cap9,hv9⟩:=HT5.out.form
      have hns9:NSl w105 v5 (H.wt ++ [n]):=nsl_snoc HT5.out
      have hA9:=(HA1.out.grown HG5.out).setWt hns9 HIN.out
      have hc11:w105.cell? ⟨h,11,none⟩=some (.slice aw lw cw):=(HS.out _ HG5.out).1
      have hf11:=(HA1.out.grown HG5.out).frozen 11
      have HA9:=qh hA9
      clear hA9 hns9
      subst hv9
      refine rd 12 rfl fun K hK=>?_
      go_simp
      refine hK.out _ _ (HLD.out _ n _ (tt.range_of ((Below.heap_setCell _ _ _ _ (show w.heap.size ≠ h from fun e=>by have:=HHW.out;omega)).trans ((HG5.out.block _ (lt_of HBX1.out) (by simp)).trans HBX1.out)))) (fun hHeld=>?_)
      clear hK K
      try simp only [lay]
      refine wpAnyH_done (by kernel_rfl) ?_ _
      clear hHeld hc11 hf11
      go_wp2_with fail
      go_ret2
      exact ⟨_,_,rfl,HA9.out.1,tt.Sl.nil _ _ _,rdid_wt (grown_trans HGW.out HG5.out) (fun k e=>Nat.le_trans HGW.out.size (HV5.out k e)),fun k hk=>by simp [Value.ownBlock] at hk⟩
   ·skip
    have HG6:Hid (w2.grownBy ((wy.alloc (.cells #[] 45)).alloc (.cells (na n) 45)) none):=qh (grown_alloc HG1.out _)
    have HH6:Hid (((wy.alloc (.cells #[] 45)).alloc (.cells (na n) 45)).heap[wy.heap.size + 1]?=some (.cells (na n) 45 (0,0))):=qh (by have:=heap_alloc_new (wy.alloc (.cells #[] 45)) (.cells (na n) 45);rwa [World.size_alloc] at this)
    have HS6:=qh (HS1.out.grown (grown_alloc (grown_refl (wy.alloc (.cells #[] 45)) none) (.cells (na n) 45)))
    go_simp
    refine hK.out _ _ (HS.out _ HG6.out).2 (fun hHeld=>?_)
    clear hK K
    try simp only [lay]
    refine wpAnyH_ready (rs:=[6]) (by kernel_rfl) (by simp) ?_
    refine (ac rfl (fun K hK=>?_) AllReadyH.nil)
    ·skip
     refine tt.step_append_sl rfl (Operand.tmp 35) (Operand.tmp 39) 24 24 rfl 45 24 i0 (.agg (na zn)) 112 Tryz.underlying24 hi hz0 hz1 hz2 tt.zn_cells (.slice (some ⟨wy.heap.size,0,none⟩) 0 0) 0 [] rfl HS6.out H.wt.length (flat nt H.wt) (by have:=(HWN.out.grown HG6.out).src Tryz.underlying24 (tt.nflat_one H.wt);rw [HWV.out] at this;exact this) (by have:=HL.out;unfold maxLen;omega) (by have:=HL.out;omega) ?_
     intro v7 w107 hsl7 hgr7 hnx7
     rw [Nat.zero_add,List.nil_append] at hsl7
     have HG7:Hid (w2.grownBy w107 none):=qh (grown_newR HG6.out (fun k e=>by cases e;exact HB1.out) hgr7)
     have HT7:Hid (tt.Sl w107 45 24 v7 H.wt.length (flat nt H.wt)):=qh hsl7
     have HV7:Hid (∀ k,v7.ownBlock=some k→w2.heap.size ≤ k):=qh (hnx7.ge HG6.out.size (fun k e=>by cases e;exact HB1.out))
     have HH7:=qh ((hgr7.block _ (lt_of HH6.out) (by simp [Value.ownBlock])).trans HH6.out)
     clear hgr7 hnx7 hsl7
     refine hK.out _ _ (HS.out _ HG7.out).2 (fun hHeld=>?_)
     clear hK K
     try simp only [lay]
     refine wpAnyH_ready (rs:=[9]) (by kernel_rfl) (by simp) ?_
     refine (ac rfl (fun K hK=>?_) AllReadyH.nil)
     ·skip
      refine tt.step_append_sl rfl (Operand.tmp 40) (Operand.tmp 42) 24 24 rfl 45 24 i0 (.agg (na zn)) 112 Tryz.underlying24 hi hz0 hz1 hz2 tt.zn_cells v7 H.wt.length (flat nt H.wt) rfl HT7.out 1 (nt n) (tt.src_one' _ (wy.heap.size + 1) (na n) _ (nt n) 24 Tryz.underlying24 HH7.out rfl (tt.nt_len n) (tt.nt_one n)) (by have:=HL.out;unfold maxLen;omega) (by have:=HL.out;omega) ?_
      intro v8 w108 hsl8 hgr8 hnx8
      have HG8:Hid (w2.grownBy w108 none):=qh (grown_newR HG7.out HV7.out hgr8)
      have HT8:=qh hsl8
      have HV8:=qh (hnx8.ge HG7.out.size HV7.out)
      clear hgr8 hnx8 hsl8
      refine hK.out _ _ (HS.out _ HG8.out).2 (fun hHeld=>?_)
      clear hK K
      try simp only [lay]
      refine tl 10 ?_ rfl ?_ ?_ (tl 11 ?_ rfl ?_ ?_ ?_)
      iterate 2 (rotate_left;(next=>(try simp only [lay]);((intro w0 hSw;go_simp);try (with_reducible rfl)));next=>rfl)
      try simp only [lay]
      obtain ⟨ad9,cap9,hv9⟩:=HT8.out.form
      have hns9:NSl w108 v8 (H.wt ++ [n]):=nsl_snoc HT8.out
      have hA9:=(HA1.out.grown HG8.out).setWt hns9 HIN.out
      have hc11:w108.cell? ⟨h,11,none⟩=some (.slice aw lw cw):=(HS.out _ HG8.out).1
      have hf11:=(HA1.out.grown HG8.out).frozen 11
      have HA9:=qh hA9
      clear hA9 hns9
      subst hv9
      refine rd 12 rfl fun K hK=>?_
      go_simp
      refine hK.out _ _ (HLD.out _ n _ (tt.range_of ((Below.heap_setCell _ _ _ _ (show w.heap.size ≠ h from fun e=>by have:=HHW.out;omega)).trans ((HG8.out.block _ (lt_of HBX1.out) (by simp)).trans HBX1.out)))) (fun hHeld=>?_)
      clear hK K
      try simp only [lay]
      refine wpAnyH_done (by kernel_rfl) ?_ _
      clear hHeld hc11 hf11
      go_wp2_with fail
      go_ret2
      exact ⟨_,_,rfl,HA9.out.1,tt.Sl.nil _ _ _,rdid_wt (grown_trans HGW.out HG8.out) (fun k e=>Nat.le_trans HGW.out.size (HV8.out k e)),fun k hk=>by simp [Value.ownBlock] at hk⟩
  ·skip
   have HG9:Hid (w2.grownBy ((wy.alloc (.cells #[] 45)).alloc (.cells (na n) 45)) none):=qh (grown_alloc HG1.out _)
   have HH9:Hid (((wy.alloc (.cells #[] 45)).alloc (.cells (na n) 45)).heap[wy.heap.size + 1]?=some (.cells (na n) 45 (0,0))):=qh (by have:=heap_alloc_new (wy.alloc (.cells #[] 45)) (.cells (na n) 45);rwa [World.size_alloc] at this)
   have HS9:=qh (HS1.out.grown (grown_alloc (grown_refl (wy.alloc (.cells #[] 45)) none) (.cells (na n) 45)))
   go_simp
   refine hK.out _ _ (HS.out _ HG9.out).2 (fun hHeld=>?_)
   clear hK K
   try simp only [lay]
   refine wpAnyH_ready (rs:=[5]) (by kernel_rfl) (by simp) ?_
   refine (ac rfl (fun K hK=>?_) AllReadyH.nil)
   ·skip
    have hc11:=(HS.out _ HG9.out).1
    go_simp
    refine hK.out _ _ (HS.out _ HG9.out).2 (fun hHeld=>?_)
    clear hc11
    clear hK K
    try simp only [lay]
    refine wpAnyH_ready (rs:=[6]) (by kernel_rfl) (by simp) ?_
    refine (ac rfl (fun K hK=>?_) AllReadyH.nil)
    ·skip
     refine tt.step_append_sl rfl (Operand.tmp 35) (Operand.tmp 39) 24 24 rfl 45 24 i0 (.agg (na zn)) 112 Tryz.underlying24 hi hz0 hz1 hz2 tt.zn_cells (.slice (some ⟨wy.heap.size,0,none⟩) 0 0) 0 [] rfl HS9.out H.wt.length (flat nt H.wt) (by have:=(HWN.out.grown HG9.out).src Tryz.underlying24 (tt.nflat_one H.wt);rw [HWV.out] at this;exact this) (by have:=HL.out;unfold maxLen;omega) (by have:=HL.out;omega) ?_
     intro v11 w111 hsl11 hgr11 hnx11
     rw [Nat.zero_add,List.nil_append] at hsl11
     have HG11:Hid (w2.grownBy w111 none):=qh (grown_newR HG9.out (fun k e=>by cases e;exact HB1.out) hgr11)
     have HT11:Hid (tt.Sl w111 45 24 v11 H.wt.length (flat nt H.wt)):=qh hsl11
     have HV11:Hid (∀ k,v11.ownBlock=some k→w2.heap.size ≤ k):=qh (hnx11.ge HG9.out.size (fun k e=>by cases e;exact HB1.out))
     have HH11:=qh ((hgr11.block _ (lt_of HH9.out) (by simp [Value.ownBlock])).trans HH9.out)
     clear hgr11 hnx11 hsl11
     refine hK.out _ _ (HS.out _ HG11.out).2 (fun hHeld=>?_)
     clear hK K
     try simp only [lay]
     refine wpAnyH_ready (rs:=[9]) (by kernel_rfl) (by simp) ?_
     refine (ac rfl (fun K hK=>?_) AllReadyH.nil)
     ·skip
      refine tt.step_append_sl rfl (Operand.tmp 40) (Operand.tmp 42) 24 24 rfl 45 24 i0 (.agg (na zn)) 112 Tryz.underlying24 hi hz0 hz1 hz2 tt.zn_cells v11 H.wt.length (flat nt H.wt) rfl HT11.out 1 (nt n) (tt.src_one' _ (wy.heap.size + 1) (na n) _ (nt n) 24 Tryz.underlying24 HH11.out rfl (tt.nt_len n) (tt.nt_one n)) (by have:=HL.out;unfold maxLen;omega) (by have:=HL.out;omega) ?_
      intro v12 w112 hsl12 hgr12 hnx12
      have HG12:Hid (w2.grownBy w112 none):=qh (grown_newR HG11.out HV11.out hgr12)
      have HT12:=qh hsl12
      have HV12:=qh (hnx12.ge HG11.out.size HV11.out)
      clear hgr12 hnx12 hsl12
      refine hK.out _ _ (HS.out _ HG12.out).2 (fun hHeld=>?_)
      clear hK K
      try simp only [lay]
      refine tl 10 ?_ rfl ?_ ?_ (tl 11 ?_ rfl ?_ ?_ ?_)
      iterate 2 (rotate_left;(next=>(try simp only [lay]);((intro w0 hSw;go_simp);try (with_reducible rfl)));next=>rfl)
      try simp only [lay]
      obtain ⟨ad9,cap9,hv9⟩:=HT12.out.form
      have hns9:NSl w112 v12 (H.wt ++ [n]):=nsl_snoc HT12.out
      have hA9:=(HA1.out.grown HG12.out).setWt hns9 HIN.out
      have hc11:w112.cell? ⟨h,11,none⟩=some (.slice aw lw cw):=(HS.out _ HG12.out).1
      have hf11:=(HA1.out.grown HG12.out).frozen 11
      have HA9:=qh hA9
      clear hA9 hns9
      subst hv9
      refine rd 12 rfl fun K hK=>?_
      go_simp
      refine hK.out _ _ (HLD.out _ n _ (tt.range_of ((Below.heap_setCell _ _ _ _ (show w.heap.size ≠ h from fun e=>by have:=HHW.out;omega)).trans ((HG12.out.block _ (lt_of HBX1.out) (by simp)).trans HBX1.out)))) (fun hHeld=>?_)
      clear hK K
      try simp only [lay]
      refine wpAnyH_done (by kernel_rfl) ?_ _
      clear hHeld hc11 hf11
      go_wp2_with fail
      go_ret2
      exact ⟨_,_,rfl,HA9.out.1,tt.Sl.nil _ _ _,rdid_wt (grown_trans HGW.out HG12.out) (fun k e=>Nat.le_trans HGW.out.size (HV12.out k e)),fun k hk=>by simp [Value.ownBlock] at hk⟩
 ·skip
  have hc11:=(HS.out _ HG0.out).1
  go_simp
  refine hK.out _ _ (HS.out _ HG0.out).2 (fun hHeld=>?_)
  clear hc11
  clear hK K
  try simp only [lay]
  refine wpAnyH_ready (rs:=[1,8]) (by kernel_rfl) (by simp) ?_
  refine (ac rfl (fun K hK=>?_) (ac rfl (fun K hK=>?_) AllReadyH.nil))
  ·skip
   have HG14:Hid (w2.grownBy (wy.alloc (.cells #[] 45)) none):=qh (grown_alloc HG0.out _)
   have HS14:Hid (tt.Sl (wy.alloc (.cells #[] 45)) 45 24 (.slice (some ⟨wy.heap.size,0,none⟩) 0 0) 0 []):=qh (by have:=tt.Sl.empty wy 45 24;exact this)
   have HB14:Hid (w2.heap.size ≤ wy.heap.size):=qh (by have:=HG0.out.size;exact this)
   go_simp
   refine hK.out _ _ (HS.out _ HG14.out).2 (fun hHeld=>?_)
   clear hK K
   try simp only [lay]
   refine wpAnyH_ready (rs:=[6,8]) (by kernel_rfl) (by simp) ?_
   refine (ac rfl (fun K hK=>?_) (ac rfl (fun K hK=>?_) AllReadyH.nil))
   ·skip
    refine tt.step_append_sl rfl (Operand.tmp 35) (Operand.tmp 39) 24 24 rfl 45 24 i0 (.agg (na zn)) 112 Tryz.underlying24 hi hz0 hz1 hz2 tt.zn_cells (.slice (some ⟨wy.heap.size,0,none⟩) 0 0) 0 [] rfl HS14.out H.wt.length (flat nt H.wt) (by have:=(HWN.out.grown HG14.out).src Tryz.underlying24 (tt.nflat_one H.wt);rw [HWV.out] at this;exact this) (by have:=HL.out;unfold maxLen;omega) (by have:=HL.out;omega) ?_
    intro v15 w115 hsl15 hgr15 hnx15
    rw [Nat.zero_add,List.nil_append] at hsl15
    have HG15:Hid (w2.grownBy w115 none):=qh (grown_newR HG14.out (fun k e=>by cases e;exact HB14.out) hgr15)
    have HT15:Hid (tt.Sl w115 45 24 v15 H.wt.length (flat nt H.wt)):=qh hsl15
    have HV15:Hid (∀ k,v15.ownBlock=some k→w2.heap.size ≤ k):=qh (hnx15.ge HG14.out.size (fun k e=>by cases e;exact HB14.out))
    clear hgr15 hnx15 hsl15
    refine hK.out _ _ (HS.out _ HG15.out).2 (fun hHeld=>?_)
    clear hK K
    try simp only [lay]
    refine wpAnyH_ready (rs:=[8]) (by kernel_rfl) (by simp) ?_
    refine (ac rfl (fun K hK=>?_) AllReadyH.nil)
    ·skip
     have HG16:Hid (w2.grownBy (w115.alloc (.cells (na n) 45)) none):=qh (grown_alloc HG15.out _)
     have HH16:Hid ((w115.alloc (.cells (na n) 45)).heap[w115.heap.size]?=some (.cells (na n) 45 (0,0))):=qh (by have:=heap_alloc_new w115 (.cells (na n) 45);exact this)
     have HT16:=qh (HT15.out.grown (grown_alloc (grown_refl w115 none) (.cells (na n) 45)))
     go_simp
     refine hK.out _ _ (HS.out _ HG16.out).2 (fun hHeld=>?_)
     clear hK K
     try simp only [lay]
     refine wpAnyH_ready (rs:=[9]) (by kernel_rfl) (by simp) ?_
     refine (ac rfl (fun K hK=>?_) AllReadyH.nil)
     ·skip
      refine tt.step_append_sl rfl (Operand.tmp 40) (Operand.tmp 42) 24 24 rfl 45 24 i0 (.agg (na zn)) 112 Tryz.underlying24 hi hz0 hz1 hz2 tt.zn_cells v15 H.wt.length (flat nt H.wt) rfl HT16.out 1 (nt n) (tt.src_one' _ (w115.heap.size) (na n) _ (nt n) 24 Tryz.underlying24 HH16.out rfl (tt.nt_len n) (tt.nt_one n)) (by have:=HL.out;unfold maxLen;omega) (by have:=HL.out;omega) ?_
      intro v17 w117 hsl17 hgr17 hnx17
      have HG17:Hid (w2.grownBy w117 none):=qh (grown_newR HG16.out HV15.out hgr17)
      have HT17:=qh hsl17
      have HV17:=qh (hnx17.ge HG16.out.size HV15.out)
      clear hgr17 hnx17 hsl17
      refine hK.out _ _ (HS.out _ HG17.out).2 (fun hHeld=>?_)
      clear hK K
      try simp only [lay]
      refine tl 10 ?_ rfl ?_ ?_ (tl 11 ?_ rfl ?_ ?_ ?_)
      iterate 2 (rotate_left;(next=>(try simp only [lay]);((intro w0 hSw;go_simp);try (with_reducible rfl)));next=>rfl)
      try simp only [lay]
      obtain ⟨ad9,cap9,hv9⟩:=HT17.out.form
      have hns9:NSl w117 v17 (H.wt ++ [n]):=nsl_snoc HT17.out
      have hA9:=(HA1.out.grown HG17.out).setWt hns9 HIN.out
      have hc11:w117.cell? ⟨h,11,none⟩=some (.slice aw lw cw):=(HS.out _ HG17.out).1
      have hf11:=(HA1.out.grown HG17.out).frozen 11
      have HA9:=qh hA9
      clear hA9 hns9
      subst hv9
      refine rd 12 rfl fun K hK=>?_
      go_simp
      refine hK.out _ _ (HLD.out _ n _ (tt.range_of ((Below.heap_setCell _ _ _ _ (show w.heap.size ≠ h from fun e=>by have:=HHW.out;omega)).trans ((HG17.out.block _ (lt_of HBX1.out) (by simp)).trans HBX1.out)))) (fun hHeld=>?_)
      clear hK K
      try simp only [lay]
      refine wpAnyH_done (by kernel_rfl) ?_ _
      clear hHeld hc11 hf11
      go_wp2_with fail
      go_ret2
      exact ⟨_,_,rfl,HA9.out.1,tt.Sl.nil _ _ _,rdid_wt (grown_trans HGW.out HG17.out) (fun k e=>Nat.le_trans HGW.out.size (HV17.out k e)),fun k hk=>by simp [Value.ownBlock] at hk⟩
   ·skip
    have HG18:Hid (w2.grownBy ((wy.alloc (.cells #[] 45)).alloc (.cells (na n) 45)) none):=qh (grown_alloc HG14.out _)
    have HH18:Hid (((wy.alloc (.cells #[] 45)).alloc (.cells (na n) 45)).heap[wy.heap.size + 1]?=some (.cells (na n) 45 (0,0))):=qh (by have:=heap_alloc_new (wy.alloc (.cells #[] 45)) (.cells (na n) 45);rwa [World.size_alloc] at this)
    have HS18:=qh (HS14.out.grown (grown_alloc (grown_refl (wy.alloc (.cells #[] 45)) none) (.cells (na n) 45)))
    go_simp
    refine hK.out _ _ (HS.out _ HG18.out).2 (fun hHeld=>?_)
    clear hK K
    try simp only [lay]
    refine wpAnyH_ready (rs:=[6]) (by kernel_rfl) (by simp) ?_
    refine (ac rfl (fun K hK=>?_) AllReadyH.nil)
    ·skip
     refine tt.step_append_sl rfl (Operand.tmp 35) (Operand.tmp 39) 24 24 rfl 45 24 i0 (.agg (na zn)) 112 Tryz.underlying24 hi hz0 hz1 hz2 tt.zn_cells (.slice (some ⟨wy.heap.size,0,none⟩) 0 0) 0 [] rfl HS18.out H.wt.length (flat nt H.wt) (by have:=(HWN.out.grown HG18.out).src Tryz.underlying24 (tt.nflat_one H.wt);rw [HWV.out] at this;exact this) (by have:=HL.out;unfold maxLen;omega) (by have:=HL.out;omega) ?_
     intro v19 w119 hsl19 hgr19 hnx19
     rw [Nat.zero_add,List.nil_append] at hsl19
     have HG19:Hid (w2.grownBy w119 none):=qh (grown_newR HG18.out (fun k e=>by cases e;exact HB14.out) hgr19)
     have HT19:Hid (tt.Sl w119 45 24 v19 H.wt.length (flat nt H.wt)):=qh hsl19
     have HV19:Hid (∀ k,v19.ownBlock=some k→w2.heap.size ≤ k):=qh (hnx19.ge HG18.out.size (fun k e=>by cases e;exact HB14.out))
     have HH19:=qh ((hgr19.block _ (lt_of HH18.out) (by simp [Value.ownBlock])).trans HH18.out)
     clear hgr19 hnx19 hsl19
     refine hK.out _ _ (HS.out _ HG19.out).2 (fun hHeld=>?_)
     clear hK K
     try simp only [lay]
     refine wpAnyH_ready (rs:=[9]) (by kernel_rfl) (by simp) ?_
     refine (ac rfl (fun K hK=>?_) AllReadyH.nil)
     ·skip
      refine tt.step_append_sl rfl (Operand.tmp 40) (Operand.tmp 42) 24 24 rfl 45 24 i0 (.agg (na zn)) 112 Tryz.underlying24 hi hz0 hz1 hz2 tt.zn_cells v19 H.wt.length (flat nt H.wt) rfl HT19.out 1 (nt n) (tt.src_one' _ (wy.heap.size + 1) (na n) _ (nt n) 24 Tryz.underlying24 HH19.out rfl (tt.nt_len n) (tt.nt_one n)) (by have:=HL.out;unfold maxLen;omega) (by have:=HL.out;omega) ?_
      intro v20 w120 hsl20 hgr20 hnx20
      have HG20:Hid (w2.grownBy w120 none):=qh (grown_newR HG19.out HV19.out hgr20)
      have HT20:=qh hsl20
      have HV20:=qh (hnx20.ge HG19.out.size HV19.out)
      clear hgr20 hnx20 hsl20
      refine hK.out _ _ (HS.out _ HG20.out).2 (fun hHeld=>?_)
      clear hK K
      try simp only [lay]
      refine tl 10 ?_ rfl ?_ ?_ (tl 11 ?_ rfl ?_ ?_ ?_)
      iterate 2 (rotate_left;(next=>(try simp only [lay]);((intro w0 hSw;go_simp);try (with_reducible rfl)));next=>rfl)
      try simp only [lay]
      obtain ⟨ad9,cap9,hv9⟩:=HT20.out.form
      have hns9:NSl w120 v20 (H.wt ++ [n]):=nsl_snoc HT20.out
      have hA9:=(HA1.out.grown HG20.out).setWt hns9 HIN.out
      have hc11:w120.cell? ⟨h,11,none⟩=some (.slice aw lw cw):=(HS.out _ HG20.out).1
      have hf11:=(HA1.out.grown HG20.out).frozen 11
      have HA9:=qh hA9
      clear hA9 hns9
      subst hv9
      refine rd 12 rfl fun K hK=>?_
      go_simp
      refine hK.out _ _ (HLD.out _ n _ (tt.range_of ((Below.heap_setCell _ _ _ _ (show w.heap.size ≠ h from fun e=>by have:=HHW.out;omega)).trans ((HG20.out.block _ (lt_of HBX1.out) (by simp)).trans HBX1.out)))) (fun hHeld=>?_)
      clear hK K
      try simp only [lay]
      refine wpAnyH_done (by kernel_rfl) ?_ _
      clear hHeld hc11 hf11
      go_wp2_with fail
      go_ret2
      exact ⟨_,_,rfl,HA9.out.1,tt.Sl.nil _ _ _,rdid_wt (grown_trans HGW.out HG20.out) (fun k e=>Nat.le_trans HGW.out.size (HV20.out k e)),fun k hk=>by simp [Value.ownBlock] at hk⟩
  ·skip
   have HG21:Hid (w2.grownBy (wy.alloc (.cells (na n) 45)) none):=qh (grown_alloc HG0.out _)
   have HH21:Hid ((wy.alloc (.cells (na n) 45)).heap[wy.heap.size]?=some (.cells (na n) 45 (0,0))):=qh (by have:=heap_alloc_new wy (.cells (na n) 45);exact this)
   go_simp
   refine hK.out _ _ (HS.out _ HG21.out).2 (fun hHeld=>?_)
   clear hK K
   try simp only [lay]
   refine wpAnyH_ready (rs:=[1]) (by kernel_rfl) (by simp) ?_
   refine (ac rfl (fun K hK=>?_) AllReadyH.nil)
   ·skip
    have HG22:Hid (w2.grownBy ((wy.alloc (.cells (na n) 45)).alloc (.cells #[] 45)) none):=qh (grown_alloc HG21.out _)
    have HS22:Hid (tt.Sl ((wy.alloc (.cells (na n) 45)).alloc (.cells #[] 45)) 45 24 (.slice (some ⟨wy.heap.size + 1,0,none⟩) 0 0) 0 []):=qh (by have:=tt.Sl.empty (wy.alloc (.cells (na n) 45)) 45 24;rwa [World.size_alloc] at this)
    have HB22:Hid (w2.heap.size ≤ wy.heap.size + 1):=qh (by have:=HG21.out.size;rwa [World.size_alloc] at this)
    have HH22:=qh ((Below.heap_alloc (wy.alloc (.cells (na n) 45)) (.cells #[] 45) _ (lt_of HH21.out)).trans HH21.out)
    go_simp
    refine hK.out _ _ (HS.out _ HG22.out).2 (fun hHeld=>?_)
    clear hK K
    try simp only [lay]
    refine wpAnyH_ready (rs:=[6]) (by kernel_rfl) (by simp) ?_
    refine (ac rfl (fun K hK=>?_) AllReadyH.nil)
    ·skip
     refine tt.step_append_sl rfl (Operand.tmp 35) (Operand.tmp 39) 24 24 rfl 45 24 i0 (.agg (na zn)) 112 Tryz.underlying24 hi hz0 hz1 hz2 tt.zn_cells (.slice (some ⟨wy.heap.size + 1,0,none⟩) 0 0) 0 [] rfl HS22.out H.wt.length (flat nt H.wt) (by have:=(HWN.out.grown HG22.out).src Tryz.underlying24 (tt.nflat_one H.wt);rw [HWV.out] at this;exact this) (by have:=HL.out;unfold maxLen;omega) (by have:=HL.out;omega) ?_
     intro v23 w123 hsl23 hgr23 hnx23
     rw [Nat.zero_add,List.nil_append] at hsl23
     have HG23:Hid (w2.grownBy w123 none):=qh (grown_newR HG22.out (fun k e=>by cases e;exact HB22.out) hgr23)
     have HT23:Hid (tt.Sl w123 45 24 v23 H.wt.length (flat nt H.wt)):=qh hsl23
     have HV23:Hid (∀ k,v23.ownBlock=some k→w2.heap.size ≤ k):=qh (hnx23.ge HG22.out.size (fun k e=>by cases e;exact HB22.out))
     have HH23:=qh ((hgr23.block _ (lt_of HH22.out) (by simp [Value.ownBlock])).trans HH22.out)
     clear hgr23 hnx23 hsl23
     refine hK.out _ _ (HS.out _ HG23.out).2 (fun hHeld=>?_)
     clear hK K
     try simp only [lay]
     refine wpAnyH_ready (rs:=[9]) (by kernel_rfl) (by simp) ?_
     refine (ac rfl (fun K hK=>?_) AllReadyH.nil)
     ·skip
      refine tt.step_append_sl rfl (Operand.tmp 40) (Operand.tmp 42) 24 24 rfl 45 24 i0 (.agg (na zn)) 112 Tryz.underlying24 hi hz0 hz1 hz2 tt.zn_cells v23 H.wt.length (flat nt H.wt) rfl HT23.out 1 (nt n) (tt.src_one' _ (wy.heap.size) (na n) _ (nt n) 24 Tryz.underlying24 HH23.out rfl (tt.nt_len n) (tt.nt_one n)) (by have:=HL.out;unfold maxLen;omega) (by have:=HL.out;omega) ?_
      intro v24 w124 hsl24 hgr24 hnx24
      have HG24:Hid (w2.grownBy w124 none):=qh (grown_newR HG23.out HV23.out hgr24)
      have HT24:=qh hsl24
      have HV24:=qh (hnx24.ge HG23.out.size HV23.out)
      clear hgr24 hnx24 hsl24
      refine hK.out _ _ (HS.out _ HG24.out).2 (fun hHeld=>?_)
      clear hK K
      try simp only [lay]
      refine tl 10 ?_ rfl ?_ ?_ (tl 11 ?_ rfl ?_ ?_ ?_)
      iterate 2 (rotate_left;(next=>(try simp only [lay]);((intro w0 hSw;go_simp);try (with_reducible rfl)));next=>rfl)
      try simp only [lay]
      obtain ⟨ad9,cap9,hv9⟩:=HT24.out.form
      have hns9:NSl w124 v24 (H.wt ++ [n]):=nsl_snoc HT24.out
      have hA9:=(HA1.out.grown HG24.out).setWt hns9 HIN.out
      have hc11:w124.cell? ⟨h,11,none⟩=some (.slice aw lw cw):=(HS.out _ HG24.out).1
      have hf11:=(HA1.out.grown HG24.out).frozen 11
      have HA9:=qh hA9
      clear hA9 hns9
      subst hv9
      refine rd 12 rfl fun K hK=>?_
      go_simp
      refine hK.out _ _ (HLD.out _ n _ (tt.range_of ((Below.heap_setCell _ _ _ _ (show w.heap.size ≠ h from fun e=>by have:=HHW.out;omega)).trans ((HG24.out.block _ (lt_of HBX1.out) (by simp)).trans HBX1.out)))) (fun hHeld=>?_)
      clear hK K
      try simp only [lay]
      refine wpAnyH_done (by kernel_rfl) ?_ _
      clear hHeld hc11 hf11
      go_wp2_with fail
      go_ret2
      exact ⟨_,_,rfl,HA9.out.1,tt.Sl.nil _ _ _,rdid_wt (grown_trans HGW.out HG24.out) (fun k e=>Nat.le_trans HGW.out.size (HV24.out k e)),fun k hk=>by simp [Value.ownBlock] at hk⟩
 ·skip
  have HG25:Hid (w2.grownBy (wy.alloc (.cells (na n) 45)) none):=qh (grown_alloc HG0.out _)
  have HH25:Hid ((wy.alloc (.cells (na n) 45)).heap[wy.heap.size]?=some (.cells (na n) 45 (0,0))):=qh (by have:=heap_alloc_new wy (.cells (na n) 45);exact this)
  go_simp
  refine hK.out _ _ (HS.out _ HG25.out).2 (fun hHeld=>?_)
  clear hK K
  try simp only [lay]
  refine wpAnyH_ready (rs:=[1,5]) (by kernel_rfl) (by simp) ?_
  refine (ac rfl (fun K hK=>?_) (ac rfl (fun K hK=>?_) AllReadyH.nil))
  ·skip
   have HG26:Hid (w2.grownBy ((wy.alloc (.cells (na n) 45)).alloc (.cells #[] 45)) none):=qh (grown_alloc HG25.out _)
   have HS26:Hid (tt.Sl ((wy.alloc (.cells (na n) 45)).alloc (.cells #[] 45)) 45 24 (.slice (some ⟨wy.heap.size + 1,0,none⟩) 0 0) 0 []):=qh (by have:=tt.Sl.empty (wy.alloc (.cells (na n) 45)) 45 24;rwa [World.size_alloc] at this)
   have HB26:Hid (w2.heap.size ≤ wy.heap.size + 1):=qh (by have:=HG25.out.size;rwa [World.size_alloc] at this)
   have HH26:=qh ((Below.heap_alloc (wy.alloc (.cells (na n) 45)) (.cells #[] 45) _ (lt_of HH25.out)).trans HH25.out)
   go_simp
   refine hK.out _ _ (HS.out _ HG26.out).2 (fun hHeld=>?_)
   clear hK K
   try simp only [lay]
   refine wpAnyH_ready (rs:=[5]) (by kernel_rfl) (by simp) ?_
   refine (ac rfl (fun K hK=>?_) AllReadyH.nil)
   ·skip
    have hc11:=(HS.out _ HG26.out).1
    go_simp
    refine hK.out _ _ (HS.out _ HG26.out).2 (fun hHeld=>?_)
    clear hc11
    clear hK K
    try simp only [lay]
    refine wpAnyH_ready (rs:=[6]) (by kernel_rfl) (by simp) ?_
    refine (ac rfl (fun K hK=>?_) AllReadyH.nil)
    ·skip
     refine tt.step_append_sl rfl (Operand.tmp 35) (Operand.tmp 39) 24 24 rfl 45 24 i0 (.agg (na zn)) 112 Tryz.underlying24 hi hz0 hz1 hz2 tt.zn_cells (.slice (some ⟨wy.heap.size + 1,0,none⟩) 0 0) 0 [] rfl HS26.out H.wt.length (flat nt H.wt) (by have:=(HWN.out.grown HG26.out).src Tryz.underlying24 (tt.nflat_one H.wt);rw [HWV.out] at this;exact this) (by have:=HL.out;unfold maxLen;omega) (by have:=HL.out;omega) ?_
     intro v28 w128 hsl28 hgr28 hnx28
     rw [Nat.zero_add,List.nil_append] at hsl28
     have HG28:Hid (w2.grownBy w128 none):=qh (grown_newR HG26.out (fun k e=>by cases e;exact HB26.out) hgr28)
     have HT28:Hid (tt.Sl w128 45 24 v28 H.wt.length (flat nt H.wt)):=qh hsl28
     have HV28:Hid (∀ k,v28.ownBlock=some k→w2.heap.size ≤ k):=qh (hnx28.ge HG26.out.size (fun k e=>by cases e;exact HB26.out))
     have HH28:=qh ((hgr28.block _ (lt_of HH26.out) (by simp [Value.ownBlock])).trans HH26.out)
     clear hgr28 hnx28 hsl28
     refine hK.out _ _ (HS.out _ HG28.out).2 (fun hHeld=>?_)
     clear hK K
     try simp only [lay]
     refine wpAnyH_ready (rs:=[9]) (by kernel_rfl) (by simp) ?_
     refine (ac rfl (fun K hK=>?_) AllReadyH.nil)
     ·skip
      refine tt.step_append_sl rfl (Operand.tmp 40) (Operand.tmp 42) 24 24 rfl 45 24 i0 (.agg (na zn)) 112 Tryz.underlying24 hi hz0 hz1 hz2 tt.zn_cells v28 H.wt.length (flat nt H.wt) rfl HT28.out 1 (nt n) (tt.src_one' _ (wy.heap.size) (na n) _ (nt n) 24 Tryz.underlying24 HH28.out rfl (tt.nt_len n) (tt.nt_one n)) (by have:=HL.out;unfold maxLen;omega) (by have:=HL.out;omega) ?_
      intro v29 w129 hsl29 hgr29 hnx29
      have HG29:Hid (w2.grownBy w129 none):=qh (grown_newR HG28.out HV28.out hgr29)
      have HT29:=qh hsl29
      have HV29:=qh (hnx29.ge HG28.out.size HV28.out)
      clear hgr29 hnx29 hsl29
      refine hK.out _ _ (HS.out _ HG29.out).2 (fun hHeld=>?_)
      clear hK K
      try simp only [lay]
      refine tl 10 ?_ rfl ?_ ?_ (tl 11 ?_ rfl ?_ ?_ ?_)
      iterate 2 (rotate_left;(next=>(try simp only [lay]);((intro w0 hSw;go_simp);try (with_reducible rfl)));next=>rfl)
      try simp only [lay]
      obtain ⟨ad9,cap9,hv9⟩:=HT29.out.form
      have hns9:NSl w129 v29 (H.wt ++ [n]):=nsl_snoc HT29.out
      have hA9:=(HA1.out.grown HG29.out).setWt hns9 HIN.out
      have hc11:w129.cell? ⟨h,11,none⟩=some (.slice aw lw cw):=(HS.out _ HG29.out).1
      have hf11:=(HA1.out.grown HG29.out).frozen 11
      have HA9:=qh hA9
      clear hA9 hns9
      subst hv9
      refine rd 12 rfl fun K hK=>?_
      go_simp
      refine hK.out _ _ (HLD.out _ n _ (tt.range_of ((Below.heap_setCell _ _ _ _ (show w.heap.size ≠ h from fun e=>by have:=HHW.out;omega)).trans ((HG29.out.block _ (lt_of HBX1.out) (by simp)).trans HBX1.out)))) (fun hHeld=>?_)
      clear hK K
      try simp only [lay]
      refine wpAnyH_done (by kernel_rfl) ?_ _
      clear hHeld hc11 hf11
      go_wp2_with fail
      go_ret2
      exact ⟨_,_,rfl,HA9.out.1,tt.Sl.nil _ _ _,rdid_wt (grown_trans HGW.out HG29.out) (fun k e=>Nat.le_trans HGW.out.size (HV29.out k e)),fun k hk=>by simp [Value.ownBlock] at hk⟩
  ·skip
   have hc11:=(HS.out _ HG25.out).1
   go_simp
   refine hK.out _ _ (HS.out _ HG25.out).2 (fun hHeld=>?_)
   clear hc11
   clear hK K
   try simp only [lay]
   refine wpAnyH_ready (rs:=[1]) (by kernel_rfl) (by simp) ?_
   refine (ac rfl (fun K hK=>?_) AllReadyH.nil)
   ·skip
    have HG31:Hid (w2.grownBy ((wy.alloc (.cells (na n) 45)).alloc (.cells #[] 45)) none):=qh (grown_alloc HG25.out _)
    have HS31:Hid (tt.Sl ((wy.alloc (.cells (na n) 45)).alloc (.cells #[] 45)) 45 24 (.slice (some ⟨wy.heap.size + 1,0,none⟩) 0 0) 0 []):=qh (by have:=tt.Sl.empty (wy.alloc (.cells (na n) 45)) 45 24;rwa [World.size_alloc] at this)
    have HB31:Hid (w2.heap.size ≤ wy.heap.size + 1):=qh (by have:=HG25.out.size;rwa [World.size_alloc] at this)
    have HH31:=qh ((Below.heap_alloc (wy.alloc (.cells (na n) 45)) (.cells #[] 45) _ (lt_of HH25.out)).trans HH25.out)
    go_simp
    refine hK.out _ _ (HS.out _ HG31.out).2 (fun hHeld=>?_)
    clear hK K
    try simp only [lay]
    refine wpAnyH_ready (rs:=[6]) (by kernel_rfl) (by simp) ?_
    refine (ac rfl (fun K hK=>?_) AllReadyH.nil)
    ·skip
     refine tt.step_append_sl rfl (Operand.tmp 35) (Operand.tmp 39) 24 24 rfl 45 24 i0 (.agg (na zn)) 112 Tryz.underlying24 hi hz0 hz1 hz2 tt.zn_cells (.slice (some ⟨wy.heap.size + 1,0,none⟩) 0 0) 0 [] rfl HS31.out H.wt.length (flat nt H.wt) (by have:=(HWN.out.grown HG31.out).src Tryz.underlying24 (tt.nflat_one H.wt);rw [HWV.out] at this;exact this) (by have:=HL.out;unfold maxLen;omega) (by have:=HL.out;omega) ?_
     intro v32 w132 hsl32 hgr32 hnx32
     rw [Nat.zero_add,List.nil_append] at hsl32
     have HG32:Hid (w2.grownBy w132 none):=qh (grown_newR HG31.out (fun k e=>by cases e;exact HB31.out) hgr32)
     have HT32:Hid (tt.Sl w132 45 24 v32 H.wt.length (flat nt H.wt)):=qh hsl32
     have HV32:Hid (∀ k,v32.ownBlock=some k→w2.heap.size ≤ k):=qh (hnx32.ge HG31.out.size (fun k e=>by cases e;exact HB31.out))
     have HH32:=qh ((hgr32.block _ (lt_of HH31.out) (by simp [Value.ownBlock])).trans HH31.out)
     clear hgr32 hnx32 hsl32
     refine hK.out _ _ (HS.out _ HG32.out).2 (fun hHeld=>?_)
     clear hK K
     try simp only [lay]
     refine wpAnyH_ready (rs:=[9]) (by kernel_rfl) (by simp) ?_
     refine (ac rfl (fun K hK=>?_) AllReadyH.nil)
     ·skip
      refine tt.step_append_sl rfl (Operand.tmp 40) (Operand.tmp 42) 24 24 rfl 45 24 i0 (.agg (na zn)) 112 Tryz.underlying24 hi hz0 hz1 hz2 tt.zn_cells v32 H.wt.length (flat nt H.wt) rfl HT32.out 1 (nt n) (tt.src_one' _ (wy.heap.size) (na n) _ (nt n) 24 Tryz.underlying24 HH32.out rfl (tt.nt_len n) (tt.nt_one n)) (by have:=HL.out;unfold maxLen;omega) (by have:=HL.out;omega) ?_
      intro v33 w133 hsl33 hgr33 hnx33
      have HG33:Hid (w2.grownBy w133 none):=qh (grown_newR HG32.out HV32.out hgr33)
      have HT33:=qh hsl33
      have HV33:=qh (hnx33.ge HG32.out.size HV32.out)
      clear hgr33 hnx33 hsl33
      refine hK.out _ _ (HS.out _ HG33.out).2 (fun hHeld=>?_)
      clear hK K
      try simp only [lay]
      refine tl 10 ?_ rfl ?_ ?_ (tl 11 ?_ rfl ?_ ?_ ?_)
      iterate 2 (rotate_left;(next=>(try simp only [lay]);((intro w0 hSw;go_simp);try (with_reducible rfl)));next=>rfl)
      try simp only [lay]
      obtain ⟨ad9,cap9,hv9⟩:=HT33.out.form
      have hns9:NSl w133 v33 (H.wt ++ [n]):=nsl_snoc HT33.out
      have hA9:=(HA1.out.grown HG33.out).setWt hns9 HIN.out
      have hc11:w133.cell? ⟨h,11,none⟩=some (.slice aw lw cw):=(HS.out _ HG33.out).1
      have hf11:=(HA1.out.grown HG33.out).frozen 11
      have HA9:=qh hA9
      clear hA9 hns9
      subst hv9
      refine rd 12 rfl fun K hK=>?_
      go_simp
      refine hK.out _ _ (HLD.out _ n _ (tt.range_of ((Below.heap_setCell _ _ _ _ (show w.heap.size ≠ h from fun e=>by have:=HHW.out;omega)).trans ((HG33.out.block _ (lt_of HBX1.out) (by simp)).trans HBX1.out)))) (fun hHeld=>?_)
      clear hK K
      try simp only [lay]
      refine wpAnyH_done (by kernel_rfl) ?_ _
      clear hHeld hc11 hf11
      go_wp2_with fail
      go_ret2
      exact ⟨_,_,rfl,HA9.out.1,tt.Sl.nil _ _ _,rdid_wt (grown_trans HGW.out HG33.out) (fun k e=>Nat.le_trans HGW.out.size (HV33.out k e)),fun k hk=>by simp [Value.ownBlock] at hk⟩
end
end Go.Proofs.YtenhdijbcdkfbaaGreatDoor.hh
