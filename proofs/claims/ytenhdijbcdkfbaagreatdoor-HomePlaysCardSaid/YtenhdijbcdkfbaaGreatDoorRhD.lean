/-
 What the document's Ready answers of an ask: contract. No condition.
-/
import Derived.Test.YtenhdijbcdkfbaaGreatDoorTl
import Derived.Test.YtenhdijbcdkfbaaGreatDoorRhC
namespace Go.Proofs.YtenhdijbcdkfbaaGreatDoor.hh
set_option linter.unusedVariables false
set_option linter.unusedSimpArgs false
set_option maxRecDepth 1000000
set_option maxHeartbeats 16000000
open Go Go.ChangeShapes Go.WideShapes Go.ChangeAt Go.RowKit
open Go.Proofs.YtenhdijbcdkfbaaGreatDoor.tt (Nt Cfg fits net bare zd usd uses coreOf ok_ends MapAt mput mdel ik flat na nt zn grown_alloc grown_refl grown_trans tyne lt_of)
open Go.Proofs.YtenhdijbcdkfbaaGreatDoor.en (En gets back asked asks free ask_parts may_parts ea)
open Go.Proofs.YtenhdijbcdkfbaaGreatDoor.mm (wi wo ones wo_lt)
section
variable {w:World} {h:Nat} {c:Cfg} {F:Fr} {H:Hm}
theorem rready_n0 (A:RefAt w h c F H) (n:Nt) (hf:fits c n) (ht:n.t=-1) (hn:net n.k=0) (ho:jbOf H n.b.toNat=none):Calls Tryz.prog 11 #[.pointer (some ⟨h,0,none⟩),.agg (na n)] w fun e w'=>e = .returned (.int .i64 (ready c H n))∧w.grownBy w' none:=by
 obtain ⟨wb,hwb⟩:∃ wb,w.alloc (.cells (na n) 45)=wb:=⟨_,rfl⟩
 have hgb:w.grownBy wb none:=by rw [← hwb];exact grown_alloc (grown_refl _ _) _
 have HA:Hid (∀ w',wb.grownBy w' none→RefAt w' h c F H):=qh fun w' h'=>A.grown (grown_trans hgb h')
 obtain ⟨t',mm,HTT,hagg,hsize,hld⟩:=tt.named
 obtain ⟨tc,mc,HTC,haggc,hsizec,hldc⟩:=namedC
 have hbx:wb.heap[w.heap.size]?=some (.cells (na n) 45 (0,0)):=by rw [← hwb];exact heap_alloc_new _ _
 have HR:Hid (∀ w',wb.grownBy w' none→w'.rangeAt w.heap.size 0 (nt n)):=qh fun w' h=>tt.range_grown (tt.range_of hbx) h (by simp)
 have HK:Hid (∀ w',wb.grownBy w' none→(loadCellsFrom ⟨h,0,none⟩ 0 mc #[]).run Tryz.prog w' = .ok c.cells w'∧(loadCellsFrom ⟨w.heap.size,0,none⟩ 0 mm #[]).run Tryz.prog w' = .ok (na n) w'∧w'.cell? ⟨w.heap.size,2,none⟩=some (.int .i64 n.t)):=qh fun w' h'=>⟨hldc _ _ _ (HA.out w' h').plan,hld _ _ _ (HR.out w' h'),tt.cell_at (HR.out w' h') 2 _ rfl⟩
 have HF:Hid (∀ w':World,Calls Tryz.prog 37 #[.agg c.cells,.agg (na n)] w' _):=qh fun w'=>tt.rfits_any c n w' A.inv.may
 have HG:=qh hgb
 rw [decide_eq_true hf] at HF
 have hr:ready c H n=0:=by
  unfold ready
  rw [if_neg (show ¬ (¬ fits c n ∨ n.t ≠ -1) from fun e=>e.elim (fun e=>e hf) (fun e=>e ht)),if_pos hn,ho];rfl
 have e1:(n.t != -1)=false:=by simpa using ht
 obtain ⟨hb0,hb1⟩:=blk_lt hf
 have hbj:n.b.toNat < H.jb.length:=by rw [A.inv.lj];exact hb1
 obtain ⟨b,hb⟩:∃ b,b=n.b.toNat:=⟨_,rfl⟩
 have hbn:n.b=(b:Int):=by omega
 rw [← hb] at hbj ho
 obtain ⟨g,off,cap,hjv,_⟩:=A.jobRange hbj
 obtain ⟨q,hq⟩:∃ q,q=H.jb.length:=⟨_,rfl⟩
 have hlt:b < q:=by rw [hq];exact hbj
 rw [← hq] at hjv
 obtain ⟨o,hoo⟩:∃ o,o=jbOf H b:=⟨_,rfl⟩
 obtain ⟨tj,mj,HTJ,haggj,hsizej,hldj⟩:=namedJ
 have HKJ:Hid (∀ w',wb.grownBy w' none→w'.cell? ⟨h,10,none⟩=some (.slice (some ⟨g,off,none⟩) q cap)∧(loadCellsFrom ⟨g,off + b * 29,none⟩ 0 mj #[]).run Tryz.prog w' = .ok (ja o) w'∧w'.cell? ⟨w.heap.size,3,none⟩=some (.int .i64 (b:Int))):=qh fun w' h'=>by
  obtain ⟨g2,o2,c2,e2,hr2⟩:=(HA.out w' h').jobRange hbj
  rw [hjv,← hq] at e2
  cases e2
  exact ⟨by rw [(HA.out w' h').parts.2.2.1,hjv],by rw [hoo];exact hldj _ _ _ _ hr2,by rw [← hbn];exact tt.cell_at (HR.out w' h') 3 _ rfl⟩
 have HN:=qh (fun w'=>tt.rnet_any n.k w')
 have HNK:Hid (∀ w',wb.grownBy w' none→w'.cell? ⟨w.heap.size,0,none⟩=some (.int .u8 n.k)):=qh fun w' h'=>tt.cell_at (HR.out w' h') 0 _ rfl
 rw [hn] at HN
 rw [ho] at hoo
 subst hoo
 rw [hr]
 clear hr hf A hgb hbx hld hldc hldj ht hn hb0 hb1 hb hbn hbj hjv hq ho
 go_enter Tryz.func11,Tryz.ntmps11
 go_wp2_with fail
 rw [HTT.out,HTC.out]
 refine wp_region_held_drew (S:=fun w'=>wb.grownBy w' none) (by kernel_rfl) (tt.grown_drew (grown_refl _ _)) (fun hHeld=>?_)
 generalize wb.drew=wd at hHeld ⊢
 refine tl 0 ?_ rfl ?_ ?_ (tl 1 ?_ rfl ?_ ?_ (tl 2 ?_ rfl ?_ ?_ (tl 3 ?_ rfl ?_ ?_ (tl 4 ?_ rfl ?_ ?_ ?_))))
 iterate 5 (rotate_left;(next=>(try simp only [lay]);((intro w0 hSw;obtain ⟨hs1,hs2,hs3⟩:=HK.out w0 hSw;go_simp);try (with_reducible rfl)));next=>rfl)
 try simp only [lay]
 refine rd 5 rfl fun K hK=>?_
 go_simp
 (with_reducible refine (HF.out _).mono ?_);rintro e w5 ⟨rfl,hg5⟩
 go_wp2_with fail
 refine hK.out _ _ (grown_trans hHeld hg5) (fun hHeld=>?_)
 clear hK K
 try simp only [lay]
 refine tl 6 ?_ rfl ?_ ?_ (tl 7 ?_ rfl ?_ ?_ (tl 8 ?_ rfl ?_ ?_ (tl 9 ?_ rfl ?_ ?_ (tl 10 ?_ rfl ?_ ?_ (tl 11 ?_ rfl ?_ ?_ ?_)))))
 iterate 6 (rotate_left;(next=>(try simp only [lay]);((intro w0 hSw;obtain ⟨hs1,hs2,hs3⟩:=HK.out w0 hSw;go_simp);try (with_reducible rfl)));next=>rfl)
 try simp only [lay]
 refine wpAnyH_done (by kernel_rfl) ?_ _
 have HE:=qh hHeld
 go_wp2_with fail
 rw [HTJ.out]
 refine wp_region_held_drew (S:=fun w'=>w5.grownBy w' none) (by kernel_rfl) (tt.grown_drew (grown_refl _ _)) (fun hHeld=>?_)
 generalize w5.drew=we at hHeld ⊢
 have HE2:=qh hHeld
 refine tl 0 ?_ rfl ?_ ?_ (tl 1 ?_ rfl ?_ ?_ (tl 2 ?_ rfl ?_ ?_ (tl 3 ?_ rfl ?_ ?_ (tl 4 ?_ rfl ?_ ?_ (tl 5 ?_ rfl ?_ ?_ (tl 6 ?_ rfl ?_ ?_ (tl 7 ?_ rfl ?_ ?_ ?_)))))))
 iterate 8 (rotate_left;(next=>(try simp only [lay]);((intro w0 hSw;obtain ⟨hs1,hs2,hs3⟩:=HKJ.out w0 (grown_trans HE.out hSw);go_simp);try (with_reducible rfl)));next=>rfl)
 try simp only [lay]
 have hsz:=ja_size (none)
 have hst:=fun (W:World) (cz:Array Value) (hz:cz.size=29)=>run_storeCells_new (P:=Tryz.prog) W 63 cz (ja (none)) (jinfoa _) (by rw [ja_size];exact hz) (ja_one _)
 refine rd 8 rfl fun K hK=>?_
 go_simp
 refine hK.out _ _ (grown_alloc HE2.out _) (fun hHeld=>?_)
 clear hK K
 try simp only [lay]
 refine rd 9 rfl fun K hK=>?_
 go_simp
 refine hK.out _ _ (grown_alloc HE2.out _) (fun hHeld=>?_)
 clear hK K
 try simp only [lay]
 refine wpAnyH_done (by kernel_rfl) ?_ _
 have hJ0:(we.alloc (.cells (ja none) 63)).heap[we.heap.size]?=some (.cells (ja none) 63 (0,0)):=heap_alloc_new _ _
 obtain ⟨BJ,hBJ⟩:∃ B,we.heap.size=B:=⟨_,rfl⟩
 obtain ⟨wJ,hwJ⟩:∃ x,we.alloc (.cells (ja none) 63)=x:=⟨_,rfl⟩
 have HGJ:Hid (wb.grownBy wJ none):=qh (by rw [← hwJ];exact grown_trans HE.out (grown_alloc HE2.out _))
 rw [hwJ,hBJ] at hJ0
 rw [hwJ,hBJ]
 have HJ0:=qh hJ0
 have c0:=HNK.out wJ HGJ.out
 clear hJ0 hBJ hwJ hsz hst
 go_wp2_with (go_at_call 38;((with_reducible refine (HN.out _).mono ?_);rintro e w6 ⟨rfl,rfl⟩))
 have HK5:Hid (∀ w',w6.grownBy w' none→w'.cell? ⟨BJ,0,none⟩=some (.bool false)):=qh fun w' h'=>h'.cell (by simp [World.cell?,HJ0.out];rfl) (by simp)
 refine wp_region_held_drew (S:=fun w'=>w6.grownBy w' none) (by kernel_rfl) (tt.grown_drew (grown_refl _ _)) (fun hHeld=>?_)
 generalize w6.drew=wf at hHeld ⊢
 refine tl 0 ?_ rfl ?_ ?_ (tl 1 ?_ rfl ?_ ?_ (tl 2 ?_ rfl ?_ ?_ ?_))
 iterate 3 (rotate_left;(next=>(try simp only [lay]);((intro w0 hSw;have hs1:=HK5.out w0 hSw;go_simp);try (with_reducible rfl)));next=>rfl)
 try simp only [lay]
 refine tu 3 rfl ?_
 try simp only [lay]
 refine tu 4 rfl ?_
 try simp only [lay]
 refine tu 5 rfl ?_
 try simp only [lay]
 refine tu 6 rfl ?_
 try simp only [lay]
 refine tu 7 rfl ?_
 try simp only [lay]
 refine tu 8 rfl ?_
 try simp only [lay]
 refine tu 9 rfl ?_
 try simp only [lay]
 refine tu 10 rfl ?_
 try simp only [lay]
 refine tu 11 rfl ?_
 try simp only [lay]
 refine tu 12 rfl ?_
 try simp only [lay]
 refine tu 13 rfl ?_
 try simp only [lay]
 refine tu 14 rfl ?_
 try simp only [lay]
 refine tu 15 rfl ?_
 try simp only [lay]
 refine tu 16 rfl ?_
 try simp only [lay]
 refine tu 17 rfl ?_
 try simp only [lay]
 refine tu 18 rfl ?_
 try simp only [lay]
 refine tu 19 rfl ?_
 try simp only [lay]
 refine tu 20 rfl ?_
 try simp only [lay]
 refine tl 21 ?_ rfl ?_ ?_ ?_
 (rotate_left;(next=>((intro w0 hSw;go_simp);try (with_reducible rfl)));next=>rfl)
 try simp only [lay]
 refine wpAnyH_done (by kernel_rfl) ?_ _
 have HE5:=qh hHeld
 go_wp2_with fail
 go_ret
 exact ⟨rfl,grown_trans HG.out (grown_trans HGJ.out HE5.out)⟩
theorem rready_n1 (A:RefAt w h c F H) (n:Nt) (hf:fits c n) (ht:n.t=-1) (hn:net n.k=0) (j:Jb) (ho:jbOf H n.b.toNat=some j) (hr0:roomH c ≤ (H.wt.length:Int)):Calls Tryz.prog 11 #[.pointer (some ⟨h,0,none⟩),.agg (na n)] w fun e w'=>e = .returned (.int .i64 (ready c H n))∧w.grownBy w' none:=by
 obtain ⟨wb,hwb⟩:∃ wb,w.alloc (.cells (na n) 45)=wb:=⟨_,rfl⟩
 have hgb:w.grownBy wb none:=by rw [← hwb];exact grown_alloc (grown_refl _ _) _
 have HA:Hid (∀ w',wb.grownBy w' none→RefAt w' h c F H):=qh fun w' h'=>A.grown (grown_trans hgb h')
 obtain ⟨t',mm,HTT,hagg,hsize,hld⟩:=tt.named
 obtain ⟨tc,mc,HTC,haggc,hsizec,hldc⟩:=namedC
 have hbx:wb.heap[w.heap.size]?=some (.cells (na n) 45 (0,0)):=by rw [← hwb];exact heap_alloc_new _ _
 have HR:Hid (∀ w',wb.grownBy w' none→w'.rangeAt w.heap.size 0 (nt n)):=qh fun w' h=>tt.range_grown (tt.range_of hbx) h (by simp)
 have HK:Hid (∀ w',wb.grownBy w' none→(loadCellsFrom ⟨h,0,none⟩ 0 mc #[]).run Tryz.prog w' = .ok c.cells w'∧(loadCellsFrom ⟨w.heap.size,0,none⟩ 0 mm #[]).run Tryz.prog w' = .ok (na n) w'∧w'.cell? ⟨w.heap.size,2,none⟩=some (.int .i64 n.t)):=qh fun w' h'=>⟨hldc _ _ _ (HA.out w' h').plan,hld _ _ _ (HR.out w' h'),tt.cell_at (HR.out w' h') 2 _ rfl⟩
 have HF:Hid (∀ w':World,Calls Tryz.prog 37 #[.agg c.cells,.agg (na n)] w' _):=qh fun w'=>tt.rfits_any c n w' A.inv.may
 have HG:=qh hgb
 rw [decide_eq_true hf] at HF
 have hr:ready c H n=110:=by
  unfold ready
  rw [if_neg (show ¬ (¬ fits c n ∨ n.t ≠ -1) from fun e=>e.elim (fun e=>e hf) (fun e=>e ht)),if_pos hn,ho];exact if_pos ⟨rfl,hr0⟩
 have e1:(n.t != -1)=false:=by simpa using ht
 obtain ⟨hb0,hb1⟩:=blk_lt hf
 have hbj:n.b.toNat < H.jb.length:=by rw [A.inv.lj];exact hb1
 obtain ⟨b,hb⟩:∃ b,b=n.b.toNat:=⟨_,rfl⟩
 have hbn:n.b=(b:Int):=by omega
 rw [← hb] at hbj ho
 obtain ⟨g,off,cap,hjv,_⟩:=A.jobRange hbj
 obtain ⟨q,hq⟩:∃ q,q=H.jb.length:=⟨_,rfl⟩
 have hlt:b < q:=by rw [hq];exact hbj
 rw [← hq] at hjv
 obtain ⟨o,hoo⟩:∃ o,o=jbOf H b:=⟨_,rfl⟩
 obtain ⟨tj,mj,HTJ,haggj,hsizej,hldj⟩:=namedJ
 have HKJ:Hid (∀ w',wb.grownBy w' none→w'.cell? ⟨h,10,none⟩=some (.slice (some ⟨g,off,none⟩) q cap)∧(loadCellsFrom ⟨g,off + b * 29,none⟩ 0 mj #[]).run Tryz.prog w' = .ok (ja o) w'∧w'.cell? ⟨w.heap.size,3,none⟩=some (.int .i64 (b:Int))):=qh fun w' h'=>by
  obtain ⟨g2,o2,c2,e2,hr2⟩:=(HA.out w' h').jobRange hbj
  rw [hjv,← hq] at e2
  cases e2
  exact ⟨by rw [(HA.out w' h').parts.2.2.1,hjv],by rw [hoo];exact hldj _ _ _ _ hr2,by rw [← hbn];exact tt.cell_at (HR.out w' h') 3 _ rfl⟩
 have HN:=qh (fun w'=>tt.rnet_any n.k w')
 have HNK:Hid (∀ w',wb.grownBy w' none→w'.cell? ⟨w.heap.size,0,none⟩=some (.int .u8 n.k)):=qh fun w' h'=>tt.cell_at (HR.out w' h') 0 _ rfl
 rw [hn] at HN
 rw [ho] at hoo
 subst hoo
 obtain ⟨ad,cw,hwv⟩:=A.wt.form
 have HW:Hid (∀ w',wb.grownBy w' none→w'.cell? ⟨h,11,none⟩=some (.slice ad H.wt.length cw)∧w'.cell? ⟨h,0,none⟩=some (.int .i64 c.co)∧w'.cell? ⟨h,5,none⟩=some (.int .i64 c.ba)):=qh fun w' h'=>⟨by rw [(HA.out w' h').parts.2.2.2,hwv],(HA.out w' h').plan.c0,(HA.out w' h').plan.c5⟩
 have hco:=tt.hb_bounds (A.inv.may.1 0 (by omega))
 have hba:=tt.hb_bounds (A.inv.may.1 5 (by omega))
 have hco':1 ≤ c.co∧c.co ≤ 16:=hco
 have hba':1 ≤ c.ba∧c.ba ≤ 4:=hba
 have hm1:c.co * (c.ba + 1) ≤ 16 * 5:=Int.mul_le_mul hco'.2 (by omega) (by omega) (by decide)
 have hm0:0 ≤ c.co * (c.ba + 1):=Int.mul_nonneg (by omega) (by omega)
 have HRM:Hid (roomH c ≤ (H.wt.length:Int)):=qh hr0
 unfold roomH at HRM
 have HW1:Hid (IntKind.i64.wrap (c.ba + 1)=c.ba + 1):=qh (IntWalk.i64_in _ (by omega))
 have HW2:Hid (IntKind.i64.wrap (c.co * (c.ba + 1))=c.co * (c.ba + 1)):=qh (IntWalk.i64_in _ (by omega))
 clear hco hba hr0 hwv
 rw [hr]
 clear hr hf A hgb hbx hld hldc hldj ht hn hb0 hb1 hb hbn hbj hjv hq ho
 go_enter Tryz.func11,Tryz.ntmps11
 go_wp2_with fail
 rw [HTT.out,HTC.out]
 refine wp_region_held_drew (S:=fun w'=>wb.grownBy w' none) (by kernel_rfl) (tt.grown_drew (grown_refl _ _)) (fun hHeld=>?_)
 generalize wb.drew=wd at hHeld ⊢
 refine tl 0 ?_ rfl ?_ ?_ (tl 1 ?_ rfl ?_ ?_ (tl 2 ?_ rfl ?_ ?_ (tl 3 ?_ rfl ?_ ?_ (tl 4 ?_ rfl ?_ ?_ ?_))))
 iterate 5 (rotate_left;(next=>(try simp only [lay]);((intro w0 hSw;obtain ⟨hs1,hs2,hs3⟩:=HK.out w0 hSw;go_simp);try (with_reducible rfl)));next=>rfl)
 try simp only [lay]
 refine rd 5 rfl fun K hK=>?_
 go_simp
 (with_reducible refine (HF.out _).mono ?_);rintro e w5 ⟨rfl,hg5⟩
 go_wp2_with fail
 refine hK.out _ _ (grown_trans hHeld hg5) (fun hHeld=>?_)
 clear hK K
 try simp only [lay]
 refine tl 6 ?_ rfl ?_ ?_ (tl 7 ?_ rfl ?_ ?_ (tl 8 ?_ rfl ?_ ?_ (tl 9 ?_ rfl ?_ ?_ (tl 10 ?_ rfl ?_ ?_ (tl 11 ?_ rfl ?_ ?_ ?_)))))
 iterate 6 (rotate_left;(next=>(try simp only [lay]);((intro w0 hSw;obtain ⟨hs1,hs2,hs3⟩:=HK.out w0 hSw;go_simp);try (with_reducible rfl)));next=>rfl)
 try simp only [lay]
 refine wpAnyH_done (by kernel_rfl) ?_ _
 have HE:=qh hHeld
 go_wp2_with fail
 rw [HTJ.out]
 refine wp_region_held_drew (S:=fun w'=>w5.grownBy w' none) (by kernel_rfl) (tt.grown_drew (grown_refl _ _)) (fun hHeld=>?_)
 generalize w5.drew=we at hHeld ⊢
 have HE2:=qh hHeld
 refine tl 0 ?_ rfl ?_ ?_ (tl 1 ?_ rfl ?_ ?_ (tl 2 ?_ rfl ?_ ?_ (tl 3 ?_ rfl ?_ ?_ (tl 4 ?_ rfl ?_ ?_ (tl 5 ?_ rfl ?_ ?_ (tl 6 ?_ rfl ?_ ?_ (tl 7 ?_ rfl ?_ ?_ ?_)))))))
 iterate 8 (rotate_left;(next=>(try simp only [lay]);((intro w0 hSw;obtain ⟨hs1,hs2,hs3⟩:=HKJ.out w0 (grown_trans HE.out hSw);go_simp);try (with_reducible rfl)));next=>rfl)
 try simp only [lay]
 have hsz:=ja_size ((some j))
 have hst:=fun (W:World) (cz:Array Value) (hz:cz.size=29)=>run_storeCells_new (P:=Tryz.prog) W 63 cz (ja ((some j))) (jinfoa _) (by rw [ja_size];exact hz) (ja_one _)
 refine rd 8 rfl fun K hK=>?_
 go_simp
 refine hK.out _ _ (grown_alloc HE2.out _) (fun hHeld=>?_)
 clear hK K
 try simp only [lay]
 refine rd 9 rfl fun K hK=>?_
 go_simp
 refine hK.out _ _ (grown_alloc HE2.out _) (fun hHeld=>?_)
 clear hK K
 try simp only [lay]
 refine wpAnyH_done (by kernel_rfl) ?_ _
 have hJ0:(we.alloc (.cells (ja (some j)) 63)).heap[we.heap.size]?=some (.cells (ja (some j)) 63 (0,0)):=heap_alloc_new _ _
 obtain ⟨BJ,hBJ⟩:∃ B,we.heap.size=B:=⟨_,rfl⟩
 obtain ⟨wJ,hwJ⟩:∃ x,we.alloc (.cells (ja (some j)) 63)=x:=⟨_,rfl⟩
 have HGJ:Hid (wb.grownBy wJ none):=qh (by rw [← hwJ];exact grown_trans HE.out (grown_alloc HE2.out _))
 rw [hwJ,hBJ] at hJ0
 rw [hwJ,hBJ]
 have HJ0:=qh hJ0
 have c0:=HNK.out wJ HGJ.out
 clear hJ0 hBJ hwJ hsz hst
 go_wp2_with (go_at_call 38;((with_reducible refine (HN.out _).mono ?_);rintro e w6 ⟨rfl,rfl⟩))
 have HK5:Hid (∀ w',w6.grownBy w' none→w'.cell? ⟨BJ,0,none⟩=some (.bool true)):=qh fun w' h'=>h'.cell (by simp [World.cell?,HJ0.out];rfl) (by simp)
 refine wp_region_held_drew (S:=fun w'=>w6.grownBy w' none) (by kernel_rfl) (tt.grown_drew (grown_refl _ _)) (fun hHeld=>?_)
 generalize w6.drew=wf at hHeld ⊢
 refine tl 0 ?_ rfl ?_ ?_ (tl 1 ?_ rfl ?_ ?_ (tl 2 ?_ rfl ?_ ?_ ?_))
 iterate 3 (rotate_left;(next=>(try simp only [lay]);((intro w0 hSw;have hs1:=HK5.out w0 hSw;go_simp);try (with_reducible rfl)));next=>rfl)
 try simp only [lay]
 refine tl 3 ?_ rfl ?_ ?_ (tl 4 ?_ rfl ?_ ?_ (tl 5 ?_ rfl ?_ ?_ (tl 6 ?_ rfl ?_ ?_ (tl 7 ?_ rfl ?_ ?_ (tl 8 ?_ rfl ?_ ?_ (tl 9 ?_ rfl ?_ ?_ ?_))))))
 iterate 7 (rotate_left;(next=>(try simp only [lay]);((intro w0 hSw;obtain ⟨hs1,hs2,hs3⟩:=HW.out w0 (grown_trans HGJ.out hSw);go_simp);try (with_reducible rfl)));next=>rfl)
 try simp only [lay]
 refine tl 10 ?_ rfl ?_ ?_ (tl 11 ?_ rfl ?_ ?_ (tl 12 ?_ rfl ?_ ?_ (tl 13 ?_ rfl ?_ ?_ (tl 14 ?_ rfl ?_ ?_ (tl 15 ?_ rfl ?_ ?_ (tl 16 ?_ rfl ?_ ?_ ?_))))))
 iterate 7 (rotate_left;(next=>(try simp only [lay]);((intro w0 hSw;obtain ⟨hs1,hs2,hs3⟩:=HW.out w0 (grown_trans HGJ.out hSw);go_simp);try (with_reducible rfl)));next=>rfl)
 try simp only [lay]
 refine tl 17 ?_ rfl ?_ ?_ (tl 18 ?_ rfl ?_ ?_ (tl 19 ?_ rfl ?_ ?_ (tl 20 ?_ rfl ?_ ?_ (tl 21 ?_ rfl ?_ ?_ ?_))))
 iterate 5 (rotate_left;(next=>(try simp only [lay]);((intro w0 hSw;obtain ⟨hs1,hs2,hs3⟩:=HW.out w0 (grown_trans HGJ.out hSw);go_simp);try (with_reducible rfl)));next=>rfl)
 try simp only [lay]
 refine wpAnyH_done (by kernel_rfl) ?_ _
 have HE5:=qh hHeld
 go_wp2_with fail
 ·go_ret
  exact ⟨rfl,grown_trans HG.out (grown_trans HGJ.out HE5.out)⟩
 ·exfalso
  rename_i hx
  rw [HW1.out,HW2.out] at hx
  have:=HRM.out
  omega
theorem rready_n2 (A:RefAt w h c F H) (n:Nt) (hf:fits c n) (ht:n.t=-1) (hn:net n.k=0) (j:Jb) (ho:jbOf H n.b.toNat=some j) (hr0:¬ roomH c ≤ (H.wt.length:Int)):Calls Tryz.prog 11 #[.pointer (some ⟨h,0,none⟩),.agg (na n)] w fun e w'=>e = .returned (.int .i64 (ready c H n))∧w.grownBy w' none:=by
 obtain ⟨wb,hwb⟩:∃ wb,w.alloc (.cells (na n) 45)=wb:=⟨_,rfl⟩
 have hgb:w.grownBy wb none:=by rw [← hwb];exact grown_alloc (grown_refl _ _) _
 have HA:Hid (∀ w',wb.grownBy w' none→RefAt w' h c F H):=qh fun w' h'=>A.grown (grown_trans hgb h')
 obtain ⟨t',mm,HTT,hagg,hsize,hld⟩:=tt.named
 obtain ⟨tc,mc,HTC,haggc,hsizec,hldc⟩:=namedC
 have hbx:wb.heap[w.heap.size]?=some (.cells (na n) 45 (0,0)):=by rw [← hwb];exact heap_alloc_new _ _
 have HR:Hid (∀ w',wb.grownBy w' none→w'.rangeAt w.heap.size 0 (nt n)):=qh fun w' h=>tt.range_grown (tt.range_of hbx) h (by simp)
 have HK:Hid (∀ w',wb.grownBy w' none→(loadCellsFrom ⟨h,0,none⟩ 0 mc #[]).run Tryz.prog w' = .ok c.cells w'∧(loadCellsFrom ⟨w.heap.size,0,none⟩ 0 mm #[]).run Tryz.prog w' = .ok (na n) w'∧w'.cell? ⟨w.heap.size,2,none⟩=some (.int .i64 n.t)):=qh fun w' h'=>⟨hldc _ _ _ (HA.out w' h').plan,hld _ _ _ (HR.out w' h'),tt.cell_at (HR.out w' h') 2 _ rfl⟩
 have HF:Hid (∀ w':World,Calls Tryz.prog 37 #[.agg c.cells,.agg (na n)] w' _):=qh fun w'=>tt.rfits_any c n w' A.inv.may
 have HG:=qh hgb
 rw [decide_eq_true hf] at HF
 have hr:ready c H n=0:=by
  unfold ready
  rw [if_neg (show ¬ (¬ fits c n ∨ n.t ≠ -1) from fun e=>e.elim (fun e=>e hf) (fun e=>e ht)),if_pos hn,ho];exact if_neg fun e=>hr0 e.2
 have e1:(n.t != -1)=false:=by simpa using ht
 obtain ⟨hb0,hb1⟩:=blk_lt hf
 have hbj:n.b.toNat < H.jb.length:=by rw [A.inv.lj];exact hb1
 obtain ⟨b,hb⟩:∃ b,b=n.b.toNat:=⟨_,rfl⟩
 have hbn:n.b=(b:Int):=by omega
 rw [← hb] at hbj ho
 obtain ⟨g,off,cap,hjv,_⟩:=A.jobRange hbj
 obtain ⟨q,hq⟩:∃ q,q=H.jb.length:=⟨_,rfl⟩
 have hlt:b < q:=by rw [hq];exact hbj
 rw [← hq] at hjv
 obtain ⟨o,hoo⟩:∃ o,o=jbOf H b:=⟨_,rfl⟩
 obtain ⟨tj,mj,HTJ,haggj,hsizej,hldj⟩:=namedJ
 have HKJ:Hid (∀ w',wb.grownBy w' none→w'.cell? ⟨h,10,none⟩=some (.slice (some ⟨g,off,none⟩) q cap)∧(loadCellsFrom ⟨g,off + b * 29,none⟩ 0 mj #[]).run Tryz.prog w' = .ok (ja o) w'∧w'.cell? ⟨w.heap.size,3,none⟩=some (.int .i64 (b:Int))):=qh fun w' h'=>by
  obtain ⟨g2,o2,c2,e2,hr2⟩:=(HA.out w' h').jobRange hbj
  rw [hjv,← hq] at e2
  cases e2
  exact ⟨by rw [(HA.out w' h').parts.2.2.1,hjv],by rw [hoo];exact hldj _ _ _ _ hr2,by rw [← hbn];exact tt.cell_at (HR.out w' h') 3 _ rfl⟩
 have HN:=qh (fun w'=>tt.rnet_any n.k w')
 have HNK:Hid (∀ w',wb.grownBy w' none→w'.cell? ⟨w.heap.size,0,none⟩=some (.int .u8 n.k)):=qh fun w' h'=>tt.cell_at (HR.out w' h') 0 _ rfl
 rw [hn] at HN
 rw [ho] at hoo
 subst hoo
 obtain ⟨ad,cw,hwv⟩:=A.wt.form
 have HW:Hid (∀ w',wb.grownBy w' none→w'.cell? ⟨h,11,none⟩=some (.slice ad H.wt.length cw)∧w'.cell? ⟨h,0,none⟩=some (.int .i64 c.co)∧w'.cell? ⟨h,5,none⟩=some (.int .i64 c.ba)):=qh fun w' h'=>⟨by rw [(HA.out w' h').parts.2.2.2,hwv],(HA.out w' h').plan.c0,(HA.out w' h').plan.c5⟩
 have hco:=tt.hb_bounds (A.inv.may.1 0 (by omega))
 have hba:=tt.hb_bounds (A.inv.may.1 5 (by omega))
 have hco':1 ≤ c.co∧c.co ≤ 16:=hco
 have hba':1 ≤ c.ba∧c.ba ≤ 4:=hba
 have hm1:c.co * (c.ba + 1) ≤ 16 * 5:=Int.mul_le_mul hco'.2 (by omega) (by omega) (by decide)
 have hm0:0 ≤ c.co * (c.ba + 1):=Int.mul_nonneg (by omega) (by omega)
 have HRM:Hid (¬ roomH c ≤ (H.wt.length:Int)):=qh hr0
 unfold roomH at HRM
 have HW1:Hid (IntKind.i64.wrap (c.ba + 1)=c.ba + 1):=qh (IntWalk.i64_in _ (by omega))
 have HW2:Hid (IntKind.i64.wrap (c.co * (c.ba + 1))=c.co * (c.ba + 1)):=qh (IntWalk.i64_in _ (by omega))
 clear hco hba hr0 hwv
 rw [hr]
 clear hr hf A hgb hbx hld hldc hldj ht hn hb0 hb1 hb hbn hbj hjv hq ho
 go_enter Tryz.func11,Tryz.ntmps11
 go_wp2_with fail
 rw [HTT.out,HTC.out]
 refine wp_region_held_drew (S:=fun w'=>wb.grownBy w' none) (by kernel_rfl) (tt.grown_drew (grown_refl _ _)) (fun hHeld=>?_)
 generalize wb.drew=wd at hHeld ⊢
 refine tl 0 ?_ rfl ?_ ?_ (tl 1 ?_ rfl ?_ ?_ (tl 2 ?_ rfl ?_ ?_ (tl 3 ?_ rfl ?_ ?_ (tl 4 ?_ rfl ?_ ?_ ?_))))
 iterate 5 (rotate_left;(next=>(try simp only [lay]);((intro w0 hSw;obtain ⟨hs1,hs2,hs3⟩:=HK.out w0 hSw;go_simp);try (with_reducible rfl)));next=>rfl)
 try simp only [lay]
 refine rd 5 rfl fun K hK=>?_
 go_simp
 (with_reducible refine (HF.out _).mono ?_);rintro e w5 ⟨rfl,hg5⟩
 go_wp2_with fail
 refine hK.out _ _ (grown_trans hHeld hg5) (fun hHeld=>?_)
 clear hK K
 try simp only [lay]
 refine tl 6 ?_ rfl ?_ ?_ (tl 7 ?_ rfl ?_ ?_ (tl 8 ?_ rfl ?_ ?_ (tl 9 ?_ rfl ?_ ?_ (tl 10 ?_ rfl ?_ ?_ (tl 11 ?_ rfl ?_ ?_ ?_)))))
 iterate 6 (rotate_left;(next=>(try simp only [lay]);((intro w0 hSw;obtain ⟨hs1,hs2,hs3⟩:=HK.out w0 hSw;go_simp);try (with_reducible rfl)));next=>rfl)
 try simp only [lay]
 refine wpAnyH_done (by kernel_rfl) ?_ _
 have HE:=qh hHeld
 go_wp2_with fail
 rw [HTJ.out]
 refine wp_region_held_drew (S:=fun w'=>w5.grownBy w' none) (by kernel_rfl) (tt.grown_drew (grown_refl _ _)) (fun hHeld=>?_)
 generalize w5.drew=we at hHeld ⊢
 have HE2:=qh hHeld
 refine tl 0 ?_ rfl ?_ ?_ (tl 1 ?_ rfl ?_ ?_ (tl 2 ?_ rfl ?_ ?_ (tl 3 ?_ rfl ?_ ?_ (tl 4 ?_ rfl ?_ ?_ (tl 5 ?_ rfl ?_ ?_ (tl 6 ?_ rfl ?_ ?_ (tl 7 ?_ rfl ?_ ?_ ?_)))))))
 iterate 8 (rotate_left;(next=>(try simp only [lay]);((intro w0 hSw;obtain ⟨hs1,hs2,hs3⟩:=HKJ.out w0 (grown_trans HE.out hSw);go_simp);try (with_reducible rfl)));next=>rfl)
 try simp only [lay]
 have hsz:=ja_size ((some j))
 have hst:=fun (W:World) (cz:Array Value) (hz:cz.size=29)=>run_storeCells_new (P:=Tryz.prog) W 63 cz (ja ((some j))) (jinfoa _) (by rw [ja_size];exact hz) (ja_one _)
 refine rd 8 rfl fun K hK=>?_
 go_simp
 refine hK.out _ _ (grown_alloc HE2.out _) (fun hHeld=>?_)
 clear hK K
 try simp only [lay]
 refine rd 9 rfl fun K hK=>?_
 go_simp
 refine hK.out _ _ (grown_alloc HE2.out _) (fun hHeld=>?_)
 clear hK K
 try simp only [lay]
 refine wpAnyH_done (by kernel_rfl) ?_ _
 have hJ0:(we.alloc (.cells (ja (some j)) 63)).heap[we.heap.size]?=some (.cells (ja (some j)) 63 (0,0)):=heap_alloc_new _ _
 obtain ⟨BJ,hBJ⟩:∃ B,we.heap.size=B:=⟨_,rfl⟩
 obtain ⟨wJ,hwJ⟩:∃ x,we.alloc (.cells (ja (some j)) 63)=x:=⟨_,rfl⟩
 have HGJ:Hid (wb.grownBy wJ none):=qh (by rw [← hwJ];exact grown_trans HE.out (grown_alloc HE2.out _))
 rw [hwJ,hBJ] at hJ0
 rw [hwJ,hBJ]
 have HJ0:=qh hJ0
 have c0:=HNK.out wJ HGJ.out
 clear hJ0 hBJ hwJ hsz hst
 go_wp2_with (go_at_call 38;((with_reducible refine (HN.out _).mono ?_);rintro e w6 ⟨rfl,rfl⟩))
 have HK5:Hid (∀ w',w6.grownBy w' none→w'.cell? ⟨BJ,0,none⟩=some (.bool true)):=qh fun w' h'=>h'.cell (by simp [World.cell?,HJ0.out];rfl) (by simp)
 refine wp_region_held_drew (S:=fun w'=>w6.grownBy w' none) (by kernel_rfl) (tt.grown_drew (grown_refl _ _)) (fun hHeld=>?_)
 generalize w6.drew=wf at hHeld ⊢
 refine tl 0 ?_ rfl ?_ ?_ (tl 1 ?_ rfl ?_ ?_ (tl 2 ?_ rfl ?_ ?_ ?_))
 iterate 3 (rotate_left;(next=>(try simp only [lay]);((intro w0 hSw;have hs1:=HK5.out w0 hSw;go_simp);try (with_reducible rfl)));next=>rfl)
 try simp only [lay]
 refine tl 3 ?_ rfl ?_ ?_ (tl 4 ?_ rfl ?_ ?_ (tl 5 ?_ rfl ?_ ?_ (tl 6 ?_ rfl ?_ ?_ (tl 7 ?_ rfl ?_ ?_ (tl 8 ?_ rfl ?_ ?_ (tl 9 ?_ rfl ?_ ?_ ?_))))))
 iterate 7 (rotate_left;(next=>(try simp only [lay]);((intro w0 hSw;obtain ⟨hs1,hs2,hs3⟩:=HW.out w0 (grown_trans HGJ.out hSw);go_simp);try (with_reducible rfl)));next=>rfl)
 try simp only [lay]
 refine tl 10 ?_ rfl ?_ ?_ (tl 11 ?_ rfl ?_ ?_ (tl 12 ?_ rfl ?_ ?_ (tl 13 ?_ rfl ?_ ?_ (tl 14 ?_ rfl ?_ ?_ (tl 15 ?_ rfl ?_ ?_ (tl 16 ?_ rfl ?_ ?_ ?_))))))
 iterate 7 (rotate_left;(next=>(try simp only [lay]);((intro w0 hSw;obtain ⟨hs1,hs2,hs3⟩:=HW.out w0 (grown_trans HGJ.out hSw);go_simp);try (with_reducible rfl)));next=>rfl)
 try simp only [lay]
 refine tl 17 ?_ rfl ?_ ?_ (tl 18 ?_ rfl ?_ ?_ (tl 19 ?_ rfl ?_ ?_ (tl 20 ?_ rfl ?_ ?_ (tl 21 ?_ rfl ?_ ?_ ?_))))
 iterate 5 (rotate_left;(next=>(try simp only [lay]);((intro w0 hSw;obtain ⟨hs1,hs2,hs3⟩:=HW.out w0 (grown_trans HGJ.out hSw);go_simp);try (with_reducible rfl)));next=>rfl)
 try simp only [lay]
 refine wpAnyH_done (by kernel_rfl) ?_ _
 have HE5:=qh hHeld
 go_wp2_with fail
 ·exfalso
  rename_i hx
  rw [HW1.out,HW2.out] at hx
  have:=HRM.out
  omega
 ·go_ret
  exact ⟨rfl,grown_trans HG.out (grown_trans HGJ.out HE5.out)⟩
end
end Go.Proofs.YtenhdijbcdkfbaaGreatDoor.hh
