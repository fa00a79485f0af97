/-
 What the document's Ready answers: contract. No condition.
-/
import Derived.Test.YtenhdijbcdkfbaaGreatDoorTl
import Derived.Test.YtenhdijbcdkfbaaGreatDoorRhD
import Derived.Test.YtenhdijbcdkfbaaGreatDoorHcD
namespace Go.Proofs.YtenhdijbcdkfbaaGreatDoor.hh
set_option linter.unusedVariables false
set_option linter.unusedSimpArgs false
set_option maxRecDepth 1000000
set_option maxHeartbeats 16000000
open Go Go.ChangeShapes Go.WideShapes Go.ChangeAt Go.RowKit
open Go.Proofs.YtenhdijbcdkfbaaGreatDoor.tt (Nt Cfg fits net bare zd usd uses coreOf ok_ends MapAt mput mdel ik flat na nt zn grown_alloc grown_refl grown_trans tyne lt_of)
open Go.Proofs.YtenhdijbcdkfbaaGreatDoor.en (En gets back asked asks free ask_parts may_parts ea)
open Go.Proofs.YtenhdijbcdkfbaaGreatDoor.mm (wi wo ones wo_lt)
section
variable {w:World} {h:Nat} {c:Cfg} {F:Fr} {H:Hm}
theorem rready_m0 (A:RefAt w h c F H) (n:Nt) (hf:fits c n) (ht:n.t=-1) (hn:net n.k ≠ 0) (hk:n.k=11) (ho:jbOf H n.b.toNat=none)  : Calls Tryz.prog 11 #[.pointer (some ⟨h,0,none⟩),.agg (na n)] w fun e w'=>e = .returned (.int .i64 (ready c H n))∧w.grownBy w' none:=by
 obtain ⟨wb,hwb⟩:∃ wb,w.alloc (.cells (na n) 45)=wb:=⟨_,rfl⟩
 have hgb:w.grownBy wb none:=by rw [← hwb];exact grown_alloc (grown_refl _ _) _
 have HA:Hid (∀ w',wb.grownBy w' none→RefAt w' h c F H):=qh fun w' h'=>A.grown (grown_trans hgb h')
 obtain ⟨t',mm,HTT,hagg,hsize,hld⟩:=tt.named
 obtain ⟨tc,mc,HTC,haggc,hsizec,hldc⟩:=namedC
 have hbx:wb.heap[w.heap.size]?=some (.cells (na n) 45 (0,0)):=by rw [← hwb];exact heap_alloc_new _ _
 have HR:Hid (∀ w',wb.grownBy w' none→w'.rangeAt w.heap.size 0 (nt n)):=qh fun w' h=>tt.range_grown (tt.range_of hbx) h (by simp)
 have HK:Hid (∀ w',wb.grownBy w' none→(loadCellsFrom ⟨h,0,none⟩ 0 mc #[]).run Tryz.prog w' = .ok c.cells w'∧(loadCellsFrom ⟨w.heap.size,0,none⟩ 0 mm #[]).run Tryz.prog w' = .ok (na n) w'∧w'.cell? ⟨w.heap.size,2,none⟩=some (.int .i64 n.t)):=qh fun w' h'=>⟨hldc _ _ _ (HA.out w' h').plan,hld _ _ _ (HR.out w' h'),tt.cell_at (HR.out w' h') 2 _ rfl⟩
 have HF:Hid (∀ w':World,Calls Tryz.prog 37 #[.agg c.cells,.agg (na n)] w' _):=qh fun w'=>tt.rfits_any c n w' A.inv.may
 have HG:=qh hgb
 rw [decide_eq_true hf] at HF
 have hr:ready c H n=8:=by
  unfold ready
  rw [if_neg (show ¬ (¬ fits c n ∨ n.t ≠ -1) from fun e=>e.elim (fun e=>e hf) (fun e=>e ht)),if_neg hn,ho]
 have e1:(n.t != -1)=false:=by simpa using ht
 have e2:(net n.k == 0)=false:=by simpa using hn
 have e3:(n.k == 11)=true:=by simpa using hk
 obtain ⟨hb0,hb1⟩:=blk_lt hf
 have hbj:n.b.toNat < H.jb.length:=by rw [A.inv.lj];exact hb1
 obtain ⟨b,hb⟩:∃ b,b=n.b.toNat:=⟨_,rfl⟩
 have hbn:n.b=(b:Int):=by omega
 rw [← hb] at hbj ho
 obtain ⟨g,off,cap,hjv,_⟩:=A.jobRange hbj
 obtain ⟨q,hq⟩:∃ q,q=H.jb.length:=⟨_,rfl⟩
 have hlt:b < q:=by rw [hq];exact hbj
 rw [← hq] at hjv
 obtain ⟨o,hoo⟩:∃ o,o=jbOf H b:=⟨_,rfl⟩
 obtain ⟨tj,mj,HTJ,haggj,hsizej,hldj⟩:=namedJ
 have HKJ:Hid (∀ w',wb.grownBy w' none→w'.cell? ⟨h,10,none⟩=some (.slice (some ⟨g,off,none⟩) q cap)∧(loadCellsFrom ⟨g,off + b * 29,none⟩ 0 mj #[]).run Tryz.prog w' = .ok (ja o) w'∧w'.cell? ⟨w.heap.size,3,none⟩=some (.int .i64 (b:Int))):=qh fun w' h'=>by
  obtain ⟨g2,o2,c2,e2,hr2⟩:=(HA.out w' h').jobRange hbj
  rw [hjv,← hq] at e2
  cases e2
  exact ⟨by rw [(HA.out w' h').parts.2.2.1,hjv],by rw [hoo];exact hldj _ _ _ _ hr2,by rw [← hbn];exact tt.cell_at (HR.out w' h') 3 _ rfl⟩
 have HN:=qh (fun w'=>tt.rnet_any n.k w')
 have HNK:Hid (∀ w',wb.grownBy w' none→w'.cell? ⟨w.heap.size,0,none⟩=some (.int .u8 n.k)∧w'.cell? ⟨w.heap.size,1,none⟩=some (.int .i64 n.f)):=qh fun w' h'=>⟨tt.cell_at (HR.out w' h') 0 _ rfl,tt.cell_at (HR.out w' h') 1 _ rfl⟩
 generalize net n.k=nk at HN e2
 rw [ho] at hoo
 subst hoo
 rw [hr]
 clear hr hk hn hf A hgb hbx hld hldc hldj ht hb0 hb1 hb hbn hbj hjv hq ho
 go_enter Tryz.func11,Tryz.ntmps11
 go_wp2_with fail
 rw [HTT.out,HTC.out]
 refine wp_region_held_drew (S:=fun w'=>wb.grownBy w' none) (by kernel_rfl) (tt.grown_drew (grown_refl _ _)) (fun hHeld=>?_)
 generalize wb.drew=wd at hHeld ⊢
 refine tl 0 ?_ rfl ?_ ?_ (tl 1 ?_ rfl ?_ ?_ (tl 2 ?_ rfl ?_ ?_ (tl 3 ?_ rfl ?_ ?_ (tl 4 ?_ rfl ?_ ?_ ?_))))
 iterate 5 (rotate_left;(next=>(try simp only [lay]);((intro w0 hSw;obtain ⟨hs1,hs2,hs3⟩:=HK.out w0 hSw;go_simp);try (with_reducible rfl)));next=>rfl)
 try simp only [lay]
 refine rd 5 rfl fun K hK=>?_
 go_simp
 (with_reducible refine (HF.out _).mono ?_);rintro e w5 ⟨rfl,hg5⟩
 go_wp2_with fail
 refine hK.out _ _ (grown_trans hHeld hg5) (fun hHeld=>?_)
 clear hK K
 try simp only [lay]
 refine tl 6 ?_ rfl ?_ ?_ (tl 7 ?_ rfl ?_ ?_ (tl 8 ?_ rfl ?_ ?_ (tl 9 ?_ rfl ?_ ?_ (tl 10 ?_ rfl ?_ ?_ (tl 11 ?_ rfl ?_ ?_ ?_)))))
 iterate 6 (rotate_left;(next=>(try simp only [lay]);((intro w0 hSw;obtain ⟨hs1,hs2,hs3⟩:=HK.out w0 hSw;go_simp);try (with_reducible rfl)));next=>rfl)
 try simp only [lay]
 refine wpAnyH_done (by kernel_rfl) ?_ _
 have HE:=qh hHeld
 go_wp2_with fail
 rw [HTJ.out]
 refine wp_region_held_drew (S:=fun w'=>w5.grownBy w' none) (by kernel_rfl) (tt.grown_drew (grown_refl _ _)) (fun hHeld=>?_)
 generalize w5.drew=we at hHeld ⊢
 have HE2:=qh hHeld
 refine tl 0 ?_ rfl ?_ ?_ (tl 1 ?_ rfl ?_ ?_ (tl 2 ?_ rfl ?_ ?_ (tl 3 ?_ rfl ?_ ?_ (tl 4 ?_ rfl ?_ ?_ (tl 5 ?_ rfl ?_ ?_ (tl 6 ?_ rfl ?_ ?_ (tl 7 ?_ rfl ?_ ?_ ?_)))))))
 iterate 8 (rotate_left;(next=>(try simp only [lay]);((intro w0 hSw;obtain ⟨hs1,hs2,hs3⟩:=HKJ.out w0 (grown_trans HE.out hSw);go_simp);try (with_reducible rfl)));next=>rfl)
 try simp only [lay]
 have hsz:=ja_size (none)
 have hst:=fun (W:World) (cz:Array Value) (hz:cz.size=29)=>run_storeCells_new (P:=Tryz.prog) W 63 cz (ja (none)) (jinfoa _) (by rw [ja_size];exact hz) (ja_one _)
 refine rd 8 rfl fun K hK=>?_
 go_simp
 refine hK.out _ _ (grown_alloc HE2.out _) (fun hHeld=>?_)
 clear hK K
 try simp only [lay]
 refine rd 9 rfl fun K hK=>?_
 go_simp
 refine hK.out _ _ (grown_alloc HE2.out _) (fun hHeld=>?_)
 clear hK K
 try simp only [lay]
 refine wpAnyH_done (by kernel_rfl) ?_ _
 have hJ0:(we.alloc (.cells (ja none) 63)).heap[we.heap.size]?=some (.cells (ja none) 63 (0,0)):=heap_alloc_new _ _
 obtain ⟨BJ,hBJ⟩:∃ B,we.heap.size=B:=⟨_,rfl⟩
 obtain ⟨wJ,hwJ⟩:∃ x,we.alloc (.cells (ja none) 63)=x:=⟨_,rfl⟩
 have HGJ:Hid (wb.grownBy wJ none):=qh (by rw [← hwJ];exact grown_trans HE.out (grown_alloc HE2.out _))
 rw [hwJ,hBJ] at hJ0
 rw [hwJ,hBJ]
 have d0:wJ.cell? ⟨BJ,0,none⟩=some (.bool false):=by rw [cell_of_row _ _ _ _ _ _ hJ0];have:=jt_is none;simpa [ja] using this
 have d26:wJ.cell? ⟨BJ,26,none⟩=some (.bool false):=by rw [cell_of_row _ _ _ _ _ _ hJ0];have:=jt_none.2.1;simpa [ja] using this
 obtain ⟨c0,c1⟩:=HNK.out wJ HGJ.out
 clear hJ0 hBJ hwJ hsz hst
 go_wp2_with (first
  | (go_at_call 38;((with_reducible refine (HN.out _).mono ?_);rintro e w6 ⟨rfl,rfl⟩)))
 go_ret
 exact ⟨rfl,grown_trans HG.out HGJ.out⟩
theorem rready_m1 (A:RefAt w h c F H) (n:Nt) (hf:fits c n) (ht:n.t=-1) (hn:net n.k ≠ 0) (hk:n.k=11) (j:Jb) (ho:jbOf H n.b.toNat=some j) (hd:j.d=false):Calls Tryz.prog 11 #[.pointer (some ⟨h,0,none⟩),.agg (na n)] w fun e w'=>e = .returned (.int .i64 (ready c H n))∧w.grownBy w' none:=by
 obtain ⟨wb,hwb⟩:∃ wb,w.alloc (.cells (na n) 45)=wb:=⟨_,rfl⟩
 have hgb:w.grownBy wb none:=by rw [← hwb];exact grown_alloc (grown_refl _ _) _
 have HA:Hid (∀ w',wb.grownBy w' none→RefAt w' h c F H):=qh fun w' h'=>A.grown (grown_trans hgb h')
 obtain ⟨t',mm,HTT,hagg,hsize,hld⟩:=tt.named
 obtain ⟨tc,mc,HTC,haggc,hsizec,hldc⟩:=namedC
 have hbx:wb.heap[w.heap.size]?=some (.cells (na n) 45 (0,0)):=by rw [← hwb];exact heap_alloc_new _ _
 have HR:Hid (∀ w',wb.grownBy w' none→w'.rangeAt w.heap.size 0 (nt n)):=qh fun w' h=>tt.range_grown (tt.range_of hbx) h (by simp)
 have HK:Hid (∀ w',wb.grownBy w' none→(loadCellsFrom ⟨h,0,none⟩ 0 mc #[]).run Tryz.prog w' = .ok c.cells w'∧(loadCellsFrom ⟨w.heap.size,0,none⟩ 0 mm #[]).run Tryz.prog w' = .ok (na n) w'∧w'.cell? ⟨w.heap.size,2,none⟩=some (.int .i64 n.t)):=qh fun w' h'=>⟨hldc _ _ _ (HA.out w' h').plan,hld _ _ _ (HR.out w' h'),tt.cell_at (HR.out w' h') 2 _ rfl⟩
 have HF:Hid (∀ w':World,Calls Tryz.prog 37 #[.agg c.cells,.agg (na n)] w' _):=qh fun w'=>tt.rfits_any c n w' A.inv.may
 have HG:=qh hgb
 rw [decide_eq_true hf] at HF
 have hr:ready c H n=8:=by
  unfold ready
  rw [if_neg (show ¬ (¬ fits c n ∨ n.t ≠ -1) from fun e=>e.elim (fun e=>e hf) (fun e=>e ht)),if_neg hn,ho]
  dsimp only
  rw [if_pos hk,if_neg (fun e=>by rw [hd] at e;exact absurd e.1 (by simp))]
 have e1:(n.t != -1)=false:=by simpa using ht
 have e2:(net n.k == 0)=false:=by simpa using hn
 have e3:(n.k == 11)=true:=by simpa using hk
 obtain ⟨hb0,hb1⟩:=blk_lt hf
 have hbj:n.b.toNat < H.jb.length:=by rw [A.inv.lj];exact hb1
 obtain ⟨b,hb⟩:∃ b,b=n.b.toNat:=⟨_,rfl⟩
 have hbn:n.b=(b:Int):=by omega
 rw [← hb] at hbj ho
 obtain ⟨g,off,cap,hjv,_⟩:=A.jobRange hbj
 obtain ⟨q,hq⟩:∃ q,q=H.jb.length:=⟨_,rfl⟩
 have hlt:b < q:=by rw [hq];exact hbj
 rw [← hq] at hjv
 obtain ⟨o,hoo⟩:∃ o,o=jbOf H b:=⟨_,rfl⟩
 obtain ⟨tj,mj,HTJ,haggj,hsizej,hldj⟩:=namedJ
 have HKJ:Hid (∀ w',wb.grownBy w' none→w'.cell? ⟨h,10,none⟩=some (.slice (some ⟨g,off,none⟩) q cap)∧(loadCellsFrom ⟨g,off + b * 29,none⟩ 0 mj #[]).run Tryz.prog w' = .ok (ja o) w'∧w'.cell? ⟨w.heap.size,3,none⟩=some (.int .i64 (b:Int))):=qh fun w' h'=>by
  obtain ⟨g2,o2,c2,e2,hr2⟩:=(HA.out w' h').jobRange hbj
  rw [hjv,← hq] at e2
  cases e2
  exact ⟨by rw [(HA.out w' h').parts.2.2.1,hjv],by rw [hoo];exact hldj _ _ _ _ hr2,by rw [← hbn];exact tt.cell_at (HR.out w' h') 3 _ rfl⟩
 have HN:=qh (fun w'=>tt.rnet_any n.k w')
 have HNK:Hid (∀ w',wb.grownBy w' none→w'.cell? ⟨w.heap.size,0,none⟩=some (.int .u8 n.k)∧w'.cell? ⟨w.heap.size,1,none⟩=some (.int .i64 n.f)):=qh fun w' h'=>⟨tt.cell_at (HR.out w' h') 0 _ rfl,tt.cell_at (HR.out w' h') 1 _ rfl⟩
 generalize net n.k=nk at HN e2
 rw [ho] at hoo
 subst hoo
 rw [hr]
 clear hr hk hn hf A hgb hbx hld hldc hldj ht hb0 hb1 hb hbn hbj hjv hq ho
 go_enter Tryz.func11,Tryz.ntmps11
 go_wp2_with fail
 rw [HTT.out,HTC.out]
 refine wp_region_held_drew (S:=fun w'=>wb.grownBy w' none) (by kernel_rfl) (tt.grown_drew (grown_refl _ _)) (fun hHeld=>?_)
 generalize wb.drew=wd at hHeld ⊢
 refine tl 0 ?_ rfl ?_ ?_ (tl 1 ?_ rfl ?_ ?_ (tl 2 ?_ rfl ?_ ?_ (tl 3 ?_ rfl ?_ ?_ (tl 4 ?_ rfl ?_ ?_ ?_))))
 iterate 5 (rotate_left;(next=>(try simp only [lay]);((intro w0 hSw;obtain ⟨hs1,hs2,hs3⟩:=HK.out w0 hSw;go_simp);try (with_reducible rfl)));next=>rfl)
 try simp only [lay]
 refine rd 5 rfl fun K hK=>?_
 go_simp
 (with_reducible refine (HF.out _).mono ?_);rintro e w5 ⟨rfl,hg5⟩
 go_wp2_with fail
 refine hK.out _ _ (grown_trans hHeld hg5) (fun hHeld=>?_)
 clear hK K
 try simp only [lay]
 refine tl 6 ?_ rfl ?_ ?_ (tl 7 ?_ rfl ?_ ?_ (tl 8 ?_ rfl ?_ ?_ (tl 9 ?_ rfl ?_ ?_ (tl 10 ?_ rfl ?_ ?_ (tl 11 ?_ rfl ?_ ?_ ?_)))))
 iterate 6 (rotate_left;(next=>(try simp only [lay]);((intro w0 hSw;obtain ⟨hs1,hs2,hs3⟩:=HK.out w0 hSw;go_simp);try (with_reducible rfl)));next=>rfl)
 try simp only [lay]
 refine wpAnyH_done (by kernel_rfl) ?_ _
 have HE:=qh hHeld
 go_wp2_with fail
 rw [HTJ.out]
 refine wp_region_held_drew (S:=fun w'=>w5.grownBy w' none) (by kernel_rfl) (tt.grown_drew (grown_refl _ _)) (fun hHeld=>?_)
 generalize w5.drew=we at hHeld ⊢
 have HE2:=qh hHeld
 refine tl 0 ?_ rfl ?_ ?_ (tl 1 ?_ rfl ?_ ?_ (tl 2 ?_ rfl ?_ ?_ (tl 3 ?_ rfl ?_ ?_ (tl 4 ?_ rfl ?_ ?_ (tl 5 ?_ rfl ?_ ?_ (tl 6 ?_ rfl ?_ ?_ (tl 7 ?_ rfl ?_ ?_ ?_)))))))
 iterate 8 (rotate_left;(next=>(try simp only [lay]);((intro w0 hSw;obtain ⟨hs1,hs2,hs3⟩:=HKJ.out w0 (grown_trans HE.out hSw);go_simp);try (with_reducible rfl)));next=>rfl)
 try simp only [lay]
 have hsz:=ja_size ((some j))
 have hst:=fun (W:World) (cz:Array Value) (hz:cz.size=29)=>run_storeCells_new (P:=Tryz.prog) W 63 cz (ja ((some j))) (jinfoa _) (by rw [ja_size];exact hz) (ja_one _)
 refine rd 8 rfl fun K hK=>?_
 go_simp
 refine hK.out _ _ (grown_alloc HE2.out _) (fun hHeld=>?_)
 clear hK K
 try simp only [lay]
 refine rd 9 rfl fun K hK=>?_
 go_simp
 refine hK.out _ _ (grown_alloc HE2.out _) (fun hHeld=>?_)
 clear hK K
 try simp only [lay]
 refine wpAnyH_done (by kernel_rfl) ?_ _
 have hJ0:(we.alloc (.cells (ja (some j)) 63)).heap[we.heap.size]?=some (.cells (ja (some j)) 63 (0,0)):=heap_alloc_new _ _
 obtain ⟨BJ,hBJ⟩:∃ B,we.heap.size=B:=⟨_,rfl⟩
 obtain ⟨wJ,hwJ⟩:∃ x,we.alloc (.cells (ja (some j)) 63)=x:=⟨_,rfl⟩
 have HGJ:Hid (wb.grownBy wJ none):=qh (by rw [← hwJ];exact grown_trans HE.out (grown_alloc HE2.out _))
 rw [hwJ,hBJ] at hJ0
 rw [hwJ,hBJ]
 have d0:wJ.cell? ⟨BJ,0,none⟩=some (.bool true):=by rw [cell_of_row _ _ _ _ _ _ hJ0];have:=jt_is (some j);simpa [ja] using this
 have d2:wJ.cell? ⟨BJ,2,none⟩=some (.int .i64 j.a.f):=by rw [cell_of_row _ _ _ _ _ _ hJ0];have:=jt_nt j 1 _ rfl;simpa [ja] using this
 have d25:wJ.cell? ⟨BJ,25,none⟩=some (.int .u32 (j.w:Int)):=by rw [cell_of_row _ _ _ _ _ _ hJ0];have:=(jt_last j).1;simpa [ja] using this
 have d26:wJ.cell? ⟨BJ,26,none⟩=some (.bool j.d):=by rw [cell_of_row _ _ _ _ _ _ hJ0];have:=(jt_last j).2.1;simpa [ja] using this
 rw [hd] at d26
 obtain ⟨c0,c1⟩:=HNK.out wJ HGJ.out
 clear hJ0 hBJ hwJ hsz hst
 go_wp2_with (first
  | (go_at_call 38;((with_reducible refine (HN.out _).mono ?_);rintro e w6 ⟨rfl,rfl⟩)))
 go_ret
 exact ⟨rfl,grown_trans HG.out HGJ.out⟩
theorem rready_m2 (A:RefAt w h c F H) (n:Nt) (hf:fits c n) (ht:n.t=-1) (hn:net n.k ≠ 0) (hk:n.k=11) (j:Jb) (ho:jbOf H n.b.toNat=some j) (hd:j.d=true) (hx:j.a.f ≠ n.f):Calls Tryz.prog 11 #[.pointer (some ⟨h,0,none⟩),.agg (na n)] w fun e w'=>e = .returned (.int .i64 (ready c H n))∧w.grownBy w' none:=by
 obtain ⟨wb,hwb⟩:∃ wb,w.alloc (.cells (na n) 45)=wb:=⟨_,rfl⟩
 have hgb:w.grownBy wb none:=by rw [← hwb];exact grown_alloc (grown_refl _ _) _
 have HA:Hid (∀ w',wb.grownBy w' none→RefAt w' h c F H):=qh fun w' h'=>A.grown (grown_trans hgb h')
 obtain ⟨t',mm,HTT,hagg,hsize,hld⟩:=tt.named
 obtain ⟨tc,mc,HTC,haggc,hsizec,hldc⟩:=namedC
 have hbx:wb.heap[w.heap.size]?=some (.cells (na n) 45 (0,0)):=by rw [← hwb];exact heap_alloc_new _ _
 have HR:Hid (∀ w',wb.grownBy w' none→w'.rangeAt w.heap.size 0 (nt n)):=qh fun w' h=>tt.range_grown (tt.range_of hbx) h (by simp)
 have HK:Hid (∀ w',wb.grownBy w' none→(loadCellsFrom ⟨h,0,none⟩ 0 mc #[]).run Tryz.prog w' = .ok c.cells w'∧(loadCellsFrom ⟨w.heap.size,0,none⟩ 0 mm #[]).run Tryz.prog w' = .ok (na n) w'∧w'.cell? ⟨w.heap.size,2,none⟩=some (.int .i64 n.t)):=qh fun w' h'=>⟨hldc _ _ _ (HA.out w' h').plan,hld _ _ _ (HR.out w' h'),tt.cell_at (HR.out w' h') 2 _ rfl⟩
 have HF:Hid (∀ w':World,Calls Tryz.prog 37 #[.agg c.cells,.agg (na n)] w' _):=qh fun w'=>tt.rfits_any c n w' A.inv.may
 have HG:=qh hgb
 rw [decide_eq_true hf] at HF
 have hr:ready c H n=8:=by
  unfold ready
  rw [if_neg (show ¬ (¬ fits c n ∨ n.t ≠ -1) from fun e=>e.elim (fun e=>e hf) (fun e=>e ht)),if_neg hn,ho]
  dsimp only
  rw [if_pos hk,if_neg (fun e=>hx e.2)]
 have e1:(n.t != -1)=false:=by simpa using ht
 have e2:(net n.k == 0)=false:=by simpa using hn
 have e3:(n.k == 11)=true:=by simpa using hk
 obtain ⟨hb0,hb1⟩:=blk_lt hf
 have hbj:n.b.toNat < H.jb.length:=by rw [A.inv.lj];exact hb1
 obtain ⟨b,hb⟩:∃ b,b=n.b.toNat:=⟨_,rfl⟩
 have hbn:n.b=(b:Int):=by omega
 rw [← hb] at hbj ho
 obtain ⟨g,off,cap,hjv,_⟩:=A.jobRange hbj
 obtain ⟨q,hq⟩:∃ q,q=H.jb.length:=⟨_,rfl⟩
 have hlt:b < q:=by rw [hq];exact hbj
 rw [← hq] at hjv
 obtain ⟨o,hoo⟩:∃ o,o=jbOf H b:=⟨_,rfl⟩
 obtain ⟨tj,mj,HTJ,haggj,hsizej,hldj⟩:=namedJ
 have HKJ:Hid (∀ w',wb.grownBy w' none→w'.cell? ⟨h,10,none⟩=some (.slice (some ⟨g,off,none⟩) q cap)∧(loadCellsFrom ⟨g,off + b * 29,none⟩ 0 mj #[]).run Tryz.prog w' = .ok (ja o) w'∧w'.cell? ⟨w.heap.size,3,none⟩=some (.int .i64 (b:Int))):=qh fun w' h'=>by
  obtain ⟨g2,o2,c2,e2,hr2⟩:=(HA.out w' h').jobRange hbj
  rw [hjv,← hq] at e2
  cases e2
  exact ⟨by rw [(HA.out w' h').parts.2.2.1,hjv],by rw [hoo];exact hldj _ _ _ _ hr2,by rw [← hbn];exact tt.cell_at (HR.out w' h') 3 _ rfl⟩
 have HN:=qh (fun w'=>tt.rnet_any n.k w')
 have HNK:Hid (∀ w',wb.grownBy w' none→w'.cell? ⟨w.heap.size,0,none⟩=some (.int .u8 n.k)∧w'.cell? ⟨w.heap.size,1,none⟩=some (.int .i64 n.f)):=qh fun w' h'=>⟨tt.cell_at (HR.out w' h') 0 _ rfl,tt.cell_at (HR.out w' h') 1 _ rfl⟩
 generalize net n.k=nk at HN e2
 rw [ho] at hoo
 subst hoo
 rw [hr]
 clear hr hk hn hf A hgb hbx hld hldc hldj ht hb0 hb1 hb hbn hbj hjv hq ho
 go_enter Tryz.func11,Tryz.ntmps11
 go_wp2_with fail
 rw [HTT.out,HTC.out]
 refine wp_region_held_drew (S:=fun w'=>wb.grownBy w' none) (by kernel_rfl) (tt.grown_drew (grown_refl _ _)) (fun hHeld=>?_)
 generalize wb.drew=wd at hHeld ⊢
 refine tl 0 ?_ rfl ?_ ?_ (tl 1 ?_ rfl ?_ ?_ (tl 2 ?_ rfl ?_ ?_ (tl 3 ?_ rfl ?_ ?_ (tl 4 ?_ rfl ?_ ?_ ?_))))
 iterate 5 (rotate_left;(next=>(try simp only [lay]);((intro w0 hSw;obtain ⟨hs1,hs2,hs3⟩:=HK.out w0 hSw;go_simp);try (with_reducible rfl)));next=>rfl)
 try simp only [lay]
 refine rd 5 rfl fun K hK=>?_
 go_simp
 (with_reducible refine (HF.out _).mono ?_);rintro e w5 ⟨rfl,hg5⟩
 go_wp2_with fail
 refine hK.out _ _ (grown_trans hHeld hg5) (fun hHeld=>?_)
 clear hK K
 try simp only [lay]
 refine tl 6 ?_ rfl ?_ ?_ (tl 7 ?_ rfl ?_ ?_ (tl 8 ?_ rfl ?_ ?_ (tl 9 ?_ rfl ?_ ?_ (tl 10 ?_ rfl ?_ ?_ (tl 11 ?_ rfl ?_ ?_ ?_)))))
 iterate 6 (rotate_left;(next=>(try simp only [lay]);((intro w0 hSw;obtain ⟨hs1,hs2,hs3⟩:=HK.out w0 hSw;go_simp);try (with_reducible rfl)));next=>rfl)
 try simp only [lay]
 refine wpAnyH_done (by kernel_rfl) ?_ _
 have HE:=qh hHeld
 go_wp2_with fail
 rw [HTJ.out]
 refine wp_region_held_drew (S:=fun w'=>w5.grownBy w' none) (by kernel_rfl) (tt.grown_drew (grown_refl _ _)) (fun hHeld=>?_)
 generalize w5.drew=we at hHeld ⊢
 have HE2:=qh hHeld
 refine tl 0 ?_ rfl ?_ ?_ (tl 1 ?_ rfl ?_ ?_ (tl 2 ?_ rfl ?_ ?_ (tl 3 ?_ rfl ?_ ?_ (tl 4 ?_ rfl ?_ ?_ (tl 5 ?_ rfl ?_ ?_ (tl 6 ?_ rfl ?_ ?_ (tl 7 ?_ rfl ?_ ?_ ?_)))))))
 iterate 8 (rotate_left;(next=>(try simp only [lay]);((intro w0 hSw;obtain ⟨hs1,hs2,hs3⟩:=HKJ.out w0 (grown_trans HE.out hSw);go_simp);try (with_reducible rfl)));next=>rfl)
 try simp only [lay]
 have hsz:=ja_size ((some j))
 have hst:=fun (W:World) (cz:Array Value) (hz:cz.size=29)=>run_storeCells_new (P:=Tryz.prog) W 63 cz (ja ((some j))) (jinfoa _) (by rw [ja_size];exact hz) (ja_one _)
 refine rd 8 rfl fun K hK=>?_
 go_simp
 refine hK.out _ _ (grown_alloc HE2.out _) (fun hHeld=>?_)
 clear hK K
 try simp only [lay]
 refine rd 9 rfl fun K hK=>?_
 go_simp
 refine hK.out _ _ (grown_alloc HE2.out _) (fun hHeld=>?_)
 clear hK K
 try simp only [lay]
 refine wpAnyH_done (by kernel_rfl) ?_ _
 have hJ0:(we.alloc (.cells (ja (some j)) 63)).heap[we.heap.size]?=some (.cells (ja (some j)) 63 (0,0)):=heap_alloc_new _ _
 obtain ⟨BJ,hBJ⟩:∃ B,we.heap.size=B:=⟨_,rfl⟩
 obtain ⟨wJ,hwJ⟩:∃ x,we.alloc (.cells (ja (some j)) 63)=x:=⟨_,rfl⟩
 have HGJ:Hid (wb.grownBy wJ none):=qh (by rw [← hwJ];exact grown_trans HE.out (grown_alloc HE2.out _))
 rw [hwJ,hBJ] at hJ0
 rw [hwJ,hBJ]
 have d0:wJ.cell? ⟨BJ,0,none⟩=some (.bool true):=by rw [cell_of_row _ _ _ _ _ _ hJ0];have:=jt_is (some j);simpa [ja] using this
 have d2:wJ.cell? ⟨BJ,2,none⟩=some (.int .i64 j.a.f):=by rw [cell_of_row _ _ _ _ _ _ hJ0];have:=jt_nt j 1 _ rfl;simpa [ja] using this
 have d25:wJ.cell? ⟨BJ,25,none⟩=some (.int .u32 (j.w:Int)):=by rw [cell_of_row _ _ _ _ _ _ hJ0];have:=(jt_last j).1;simpa [ja] using this
 have d26:wJ.cell? ⟨BJ,26,none⟩=some (.bool j.d):=by rw [cell_of_row _ _ _ _ _ _ hJ0];have:=(jt_last j).2.1;simpa [ja] using this
 rw [hd] at d26
 have e4:(j.a.f != n.f)=true:=by simpa using hx
 obtain ⟨c0,c1⟩:=HNK.out wJ HGJ.out
 clear hJ0 hBJ hwJ hsz hst
 go_wp2_with (first
  | (go_at_call 38;((with_reducible refine (HN.out _).mono ?_);rintro e w6 ⟨rfl,rfl⟩)))
 go_ret
 exact ⟨rfl,grown_trans HG.out HGJ.out⟩
theorem rready_m3 (A:RefAt w h c F H) (n:Nt) (hf:fits c n) (ht:n.t=-1) (hn:net n.k ≠ 0) (hk:n.k=11) (j:Jb) (ho:jbOf H n.b.toNat=some j) (hd:j.d=true) (hx:j.a.f=n.f):Calls Tryz.prog 11 #[.pointer (some ⟨h,0,none⟩),.agg (na n)] w fun e w'=>e = .returned (.int .i64 (ready c H n))∧w.grownBy w' none:=by
 obtain ⟨wb,hwb⟩:∃ wb,w.alloc (.cells (na n) 45)=wb:=⟨_,rfl⟩
 have hgb:w.grownBy wb none:=by rw [← hwb];exact grown_alloc (grown_refl _ _) _
 have HA:Hid (∀ w',wb.grownBy w' none→RefAt w' h c F H):=qh fun w' h'=>A.grown (grown_trans hgb h')
 obtain ⟨t',mm,HTT,hagg,hsize,hld⟩:=tt.named
 obtain ⟨tc,mc,HTC,haggc,hsizec,hldc⟩:=namedC
 have hbx:wb.heap[w.heap.size]?=some (.cells (na n) 45 (0,0)):=by rw [← hwb];exact heap_alloc_new _ _
 have HR:Hid (∀ w',wb.grownBy w' none→w'.rangeAt w.heap.size 0 (nt n)):=qh fun w' h=>tt.range_grown (tt.range_of hbx) h (by simp)
 have HK:Hid (∀ w',wb.grownBy w' none→(loadCellsFrom ⟨h,0,none⟩ 0 mc #[]).run Tryz.prog w' = .ok c.cells w'∧(loadCellsFrom ⟨w.heap.size,0,none⟩ 0 mm #[]).run Tryz.prog w' = .ok (na n) w'∧w'.cell? ⟨w.heap.size,2,none⟩=some (.int .i64 n.t)):=qh fun w' h'=>⟨hldc _ _ _ (HA.out w' h').plan,hld _ _ _ (HR.out w' h'),tt.cell_at (HR.out w' h') 2 _ rfl⟩
 have HF:Hid (∀ w':World,Calls Tryz.prog 37 #[.agg c.cells,.agg (na n)] w' _):=qh fun w'=>tt.rfits_any c n w' A.inv.may
 have HG:=qh hgb
 rw [decide_eq_true hf] at HF
 have hr:ready c H n=0:=by
  unfold ready
  rw [if_neg (show ¬ (¬ fits c n ∨ n.t ≠ -1) from fun e=>e.elim (fun e=>e hf) (fun e=>e ht)),if_neg hn,ho]
  dsimp only
  rw [if_pos hk,if_pos ⟨hd,hx⟩]
 have e1:(n.t != -1)=false:=by simpa using ht
 have e2:(net n.k == 0)=false:=by simpa using hn
 have e3:(n.k == 11)=true:=by simpa using hk
 obtain ⟨hb0,hb1⟩:=blk_lt hf
 have hbj:n.b.toNat < H.jb.length:=by rw [A.inv.lj];exact hb1
 obtain ⟨b,hb⟩:∃ b,b=n.b.toNat:=⟨_,rfl⟩
 have hbn:n.b=(b:Int):=by omega
 rw [← hb] at hbj ho
 obtain ⟨g,off,cap,hjv,_⟩:=A.jobRange hbj
 obtain ⟨q,hq⟩:∃ q,q=H.jb.length:=⟨_,rfl⟩
 have hlt:b < q:=by rw [hq];exact hbj
 rw [← hq] at hjv
 obtain ⟨o,hoo⟩:∃ o,o=jbOf H b:=⟨_,rfl⟩
 obtain ⟨tj,mj,HTJ,haggj,hsizej,hldj⟩:=namedJ
 have HKJ:Hid (∀ w',wb.grownBy w' none→w'.cell? ⟨h,10,none⟩=some (.slice (some ⟨g,off,none⟩) q cap)∧(loadCellsFrom ⟨g,off + b * 29,none⟩ 0 mj #[]).run Tryz.prog w' = .ok (ja o) w'∧w'.cell? ⟨w.heap.size,3,none⟩=some (.int .i64 (b:Int))):=qh fun w' h'=>by
  obtain ⟨g2,o2,c2,e2,hr2⟩:=(HA.out w' h').jobRange hbj
  rw [hjv,← hq] at e2
  cases e2
  exact ⟨by rw [(HA.out w' h').parts.2.2.1,hjv],by rw [hoo];exact hldj _ _ _ _ hr2,by rw [← hbn];exact tt.cell_at (HR.out w' h') 3 _ rfl⟩
 have HN:=qh (fun w'=>tt.rnet_any n.k w')
 have HNK:Hid (∀ w',wb.grownBy w' none→w'.cell? ⟨w.heap.size,0,none⟩=some (.int .u8 n.k)∧w'.cell? ⟨w.heap.size,1,none⟩=some (.int .i64 n.f)):=qh fun w' h'=>⟨tt.cell_at (HR.out w' h') 0 _ rfl,tt.cell_at (HR.out w' h') 1 _ rfl⟩
 generalize net n.k=nk at HN e2
 rw [ho] at hoo
 subst hoo
 rw [hr]
 clear hr hk hn hf A hgb hbx hld hldc hldj ht hb0 hb1 hb hbn hbj hjv hq ho
 go_enter Tryz.func11,Tryz.ntmps11
 go_wp2_with fail
 rw [HTT.out,HTC.out]
 refine wp_region_held_drew (S:=fun w'=>wb.grownBy w' none) (by kernel_rfl) (tt.grown_drew (grown_refl _ _)) (fun hHeld=>?_)
 generalize wb.drew=wd at hHeld ⊢
 refine tl 0 ?_ rfl ?_ ?_ (tl 1 ?_ rfl ?_ ?_ (tl 2 ?_ rfl ?_ ?_ (tl 3 ?_ rfl ?_ ?_ (tl 4 ?_ rfl ?_ ?_ ?_))))
 iterate 5 (rotate_left;(next=>(try simp only [lay]);((intro w0 hSw;obtain ⟨hs1,hs2,hs3⟩:=HK.out w0 hSw;go_simp);try (with_reducible rfl)));next=>rfl)
 try simp only [lay]
 refine rd 5 rfl fun K hK=>?_
 go_simp
 (with_reducible refine (HF.out _).mono ?_);rintro e w5 ⟨rfl,hg5⟩
 go_wp2_with fail
 refine hK.out _ _ (grown_trans hHeld hg5) (fun hHeld=>?_)
 clear hK K
 try simp only [lay]
 refine tl 6 ?_ rfl ?_ ?_ (tl 7 ?_ rfl ?_ ?_ (tl 8 ?_ rfl ?_ ?_ (tl 9 ?_ rfl ?_ ?_ (tl 10 ?_ rfl ?_ ?_ (tl 11 ?_ rfl ?_ ?_ ?_)))))
 iterate 6 (rotate_left;(next=>(try simp only [lay]);((intro w0 hSw;obtain ⟨hs1,hs2,hs3⟩:=HK.out w0 hSw;go_simp);try (with_reducible rfl)));next=>rfl)
 try simp only [lay]
 refine wpAnyH_done (by kernel_rfl) ?_ _
 have HE:=qh hHeld
 go_wp2_with fail
 rw [HTJ.out]
 refine wp_region_held_drew (S:=fun w'=>w5.grownBy w' none) (by kernel_rfl) (tt.grown_drew (grown_refl _ _)) (fun hHeld=>?_)
 generalize w5.drew=we at hHeld ⊢
 have HE2:=qh hHeld
 refine tl 0 ?_ rfl ?_ ?_ (tl 1 ?_ rfl ?_ ?_ (tl 2 ?_ rfl ?_ ?_ (tl 3 ?_ rfl ?_ ?_ (tl 4 ?_ rfl ?_ ?_ (tl 5 ?_ rfl ?_ ?_ (tl 6 ?_ rfl ?_ ?_ (tl 7 ?_ rfl ?_ ?_ ?_)))))))
 iterate 8 (rotate_left;(next=>(try simp only [lay]);((intro w0 hSw;obtain ⟨hs1,hs2,hs3⟩:=HKJ.out w0 (grown_trans HE.out hSw);go_simp);try (with_reducible rfl)));next=>rfl)
 try simp only [lay]
 have hsz:=ja_size ((some j))
 have hst:=fun (W:World) (cz:Array Value) (hz:cz.size=29)=>run_storeCells_new (P:=Tryz.prog) W 63 cz (ja ((some j))) (jinfoa _) (by rw [ja_size];exact hz) (ja_one _)
 refine rd 8 rfl fun K hK=>?_
 go_simp
 refine hK.out _ _ (grown_alloc HE2.out _) (fun hHeld=>?_)
 clear hK K
 try simp only [lay]
 refine rd 9 rfl fun K hK=>?_
 go_simp
 refine hK.out _ _ (grown_alloc HE2.out _) (fun hHeld=>?_)
 clear hK K
 try simp only [lay]
 refine wpAnyH_done (by kernel_rfl) ?_ _
 have hJ0:(we.alloc (.cells (ja (some j)) 63)).heap[we.heap.size]?=some (.cells (ja (some j)) 63 (0,0)):=heap_alloc_new _ _
 obtain ⟨BJ,hBJ⟩:∃ B,we.heap.size=B:=⟨_,rfl⟩
 obtain ⟨wJ,hwJ⟩:∃ x,we.alloc (.cells (ja (some j)) 63)=x:=⟨_,rfl⟩
 have HGJ:Hid (wb.grownBy wJ none):=qh (by rw [← hwJ];exact grown_trans HE.out (grown_alloc HE2.out _))
 rw [hwJ,hBJ] at hJ0
 rw [hwJ,hBJ]
 have d0:wJ.cell? ⟨BJ,0,none⟩=some (.bool true):=by rw [cell_of_row _ _ _ _ _ _ hJ0];have:=jt_is (some j);simpa [ja] using this
 have d2:wJ.cell? ⟨BJ,2,none⟩=some (.int .i64 j.a.f):=by rw [cell_of_row _ _ _ _ _ _ hJ0];have:=jt_nt j 1 _ rfl;simpa [ja] using this
 have d25:wJ.cell? ⟨BJ,25,none⟩=some (.int .u32 (j.w:Int)):=by rw [cell_of_row _ _ _ _ _ _ hJ0];have:=(jt_last j).1;simpa [ja] using this
 have d26:wJ.cell? ⟨BJ,26,none⟩=some (.bool j.d):=by rw [cell_of_row _ _ _ _ _ _ hJ0];have:=(jt_last j).2.1;simpa [ja] using this
 rw [hd] at d26
 have e4:(j.a.f != n.f)=false:=by simpa using hx
 obtain ⟨c0,c1⟩:=HNK.out wJ HGJ.out
 clear hJ0 hBJ hwJ hsz hst
 go_wp2_with (first
  | (go_at_call 38;((with_reducible refine (HN.out _).mono ?_);rintro e w6 ⟨rfl,rfl⟩)))
 go_ret
 exact ⟨rfl,grown_trans HG.out HGJ.out⟩
theorem rready_p0 (A:RefAt w h c F H) (n:Nt) (hf:fits c n) (ht:n.t=-1) (hn:net n.k ≠ 0) (hk:n.k ≠ 11) (ho:jbOf H n.b.toNat=none)  : Calls Tryz.prog 11 #[.pointer (some ⟨h,0,none⟩),.agg (na n)] w fun e w'=>e = .returned (.int .i64 (ready c H n))∧w.grownBy w' none:=by
 obtain ⟨wb,hwb⟩:∃ wb,w.alloc (.cells (na n) 45)=wb:=⟨_,rfl⟩
 have hgb:w.grownBy wb none:=by rw [← hwb];exact grown_alloc (grown_refl _ _) _
 have HA:Hid (∀ w',wb.grownBy w' none→RefAt w' h c F H):=qh fun w' h'=>A.grown (grown_trans hgb h')
 obtain ⟨t',mm,HTT,hagg,hsize,hld⟩:=tt.named
 obtain ⟨tc,mc,HTC,haggc,hsizec,hldc⟩:=namedC
 have hbx:wb.heap[w.heap.size]?=some (.cells (na n) 45 (0,0)):=by rw [← hwb];exact heap_alloc_new _ _
 have HR:Hid (∀ w',wb.grownBy w' none→w'.rangeAt w.heap.size 0 (nt n)):=qh fun w' h=>tt.range_grown (tt.range_of hbx) h (by simp)
 have HK:Hid (∀ w',wb.grownBy w' none→(loadCellsFrom ⟨h,0,none⟩ 0 mc #[]).run Tryz.prog w' = .ok c.cells w'∧(loadCellsFrom ⟨w.heap.size,0,none⟩ 0 mm #[]).run Tryz.prog w' = .ok (na n) w'∧w'.cell? ⟨w.heap.size,2,none⟩=some (.int .i64 n.t)):=qh fun w' h'=>⟨hldc _ _ _ (HA.out w' h').plan,hld _ _ _ (HR.out w' h'),tt.cell_at (HR.out w' h') 2 _ rfl⟩
 have HF:Hid (∀ w':World,Calls Tryz.prog 37 #[.agg c.cells,.agg (na n)] w' _):=qh fun w'=>tt.rfits_any c n w' A.inv.may
 have HG:=qh hgb
 rw [decide_eq_true hf] at HF
 have hr:ready c H n=8:=by
  unfold ready
  rw [if_neg (show ¬ (¬ fits c n ∨ n.t ≠ -1) from fun e=>e.elim (fun e=>e hf) (fun e=>e ht)),if_neg hn,ho]
 have e1:(n.t != -1)=false:=by simpa using ht
 have e2:(net n.k == 0)=false:=by simpa using hn
 have e3:(n.k == 11)=false:=by simpa using hk
 obtain ⟨hb0,hb1⟩:=blk_lt hf
 have hbj:n.b.toNat < H.jb.length:=by rw [A.inv.lj];exact hb1
 obtain ⟨b,hb⟩:∃ b,b=n.b.toNat:=⟨_,rfl⟩
 have hbn:n.b=(b:Int):=by omega
 rw [← hb] at hbj ho
 obtain ⟨g,off,cap,hjv,_⟩:=A.jobRange hbj
 obtain ⟨q,hq⟩:∃ q,q=H.jb.length:=⟨_,rfl⟩
 have hlt:b < q:=by rw [hq];exact hbj
 rw [← hq] at hjv
 obtain ⟨o,hoo⟩:∃ o,o=jbOf H b:=⟨_,rfl⟩
 obtain ⟨tj,mj,HTJ,haggj,hsizej,hldj⟩:=namedJ
 have HKJ:Hid (∀ w',wb.grownBy w' none→w'.cell? ⟨h,10,none⟩=some (.slice (some ⟨g,off,none⟩) q cap)∧(loadCellsFrom ⟨g,off + b * 29,none⟩ 0 mj #[]).run Tryz.prog w' = .ok (ja o) w'∧w'.cell? ⟨w.heap.size,3,none⟩=some (.int .i64 (b:Int))):=qh fun w' h'=>by
  obtain ⟨g2,o2,c2,e2,hr2⟩:=(HA.out w' h').jobRange hbj
  rw [hjv,← hq] at e2
  cases e2
  exact ⟨by rw [(HA.out w' h').parts.2.2.1,hjv],by rw [hoo];exact hldj _ _ _ _ hr2,by rw [← hbn];exact tt.cell_at (HR.out w' h') 3 _ rfl⟩
 have HN:=qh (fun w'=>tt.rnet_any n.k w')
 have HNK:Hid (∀ w',wb.grownBy w' none→w'.cell? ⟨w.heap.size,0,none⟩=some (.int .u8 n.k)∧w'.cell? ⟨w.heap.size,1,none⟩=some (.int .i64 n.f)):=qh fun w' h'=>⟨tt.cell_at (HR.out w' h') 0 _ rfl,tt.cell_at (HR.out w' h') 1 _ rfl⟩
 generalize net n.k=nk at HN e2
 rw [ho] at hoo
 subst hoo
 rw [hr]
 clear hr hk hn hf A hgb hbx hld hldc hldj ht hb0 hb1 hb hbn hbj hjv hq ho
 go_enter Tryz.func11,Tryz.ntmps11
 go_wp2_with fail
 rw [HTT.out,HTC.out]
 refine wp_region_held_drew (S:=fun w'=>wb.grownBy w' none) (by kernel_rfl) (tt.grown_drew (grown_refl _ _)) (fun hHeld=>?_)
 generalize wb.drew=wd at hHeld ⊢
 refine tl 0 ?_ rfl ?_ ?_ (tl 1 ?_ rfl ?_ ?_ (tl 2 ?_ rfl ?_ ?_ (tl 3 ?_ rfl ?_ ?_ (tl 4 ?_ rfl ?_ ?_ ?_))))
 iterate 5 (rotate_left;(next=>(try simp only [lay]);((intro w0 hSw;obtain ⟨hs1,hs2,hs3⟩:=HK.out w0 hSw;go_simp);try (with_reducible rfl)));next=>rfl)
 try simp only [lay]
 refine rd 5 rfl fun K hK=>?_
 go_simp
 (with_reducible refine (HF.out _).mono ?_);rintro e w5 ⟨rfl,hg5⟩
 go_wp2_with fail
 refine hK.out _ _ (grown_trans hHeld hg5) (fun hHeld=>?_)
 clear hK K
 try simp only [lay]
 refine tl 6 ?_ rfl ?_ ?_ (tl 7 ?_ rfl ?_ ?_ (tl 8 ?_ rfl ?_ ?_ (tl 9 ?_ rfl ?_ ?_ (tl 10 ?_ rfl ?_ ?_ (tl 11 ?_ rfl ?_ ?_ ?_)))))
 iterate 6 (rotate_left;(next=>(try simp only [lay]);((intro w0 hSw;obtain ⟨hs1,hs2,hs3⟩:=HK.out w0 hSw;go_simp);try (with_reducible rfl)));next=>rfl)
 try simp only [lay]
 refine wpAnyH_done (by kernel_rfl) ?_ _
 have HE:=qh hHeld
 go_wp2_with fail
 rw [HTJ.out]
 refine wp_region_held_drew (S:=fun w'=>w5.grownBy w' none) (by kernel_rfl) (tt.grown_drew (grown_refl _ _)) (fun hHeld=>?_)
 generalize w5.drew=we at hHeld ⊢
 have HE2:=qh hHeld
 refine tl 0 ?_ rfl ?_ ?_ (tl 1 ?_ rfl ?_ ?_ (tl 2 ?_ rfl ?_ ?_ (tl 3 ?_ rfl ?_ ?_ (tl 4 ?_ rfl ?_ ?_ (tl 5 ?_ rfl ?_ ?_ (tl 6 ?_ rfl ?_ ?_ (tl 7 ?_ rfl ?_ ?_ ?_)))))))
 iterate 8 (rotate_left;(next=>(try simp only [lay]);((intro w0 hSw;obtain ⟨hs1,hs2,hs3⟩:=HKJ.out w0 (grown_trans HE.out hSw);go_simp);try (with_reducible rfl)));next=>rfl)
 try simp only [lay]
 have hsz:=ja_size (none)
 have hst:=fun (W:World) (cz:Array Value) (hz:cz.size=29)=>run_storeCells_new (P:=Tryz.prog) W 63 cz (ja (none)) (jinfoa _) (by rw [ja_size];exact hz) (ja_one _)
 refine rd 8 rfl fun K hK=>?_
 go_simp
 refine hK.out _ _ (grown_alloc HE2.out _) (fun hHeld=>?_)
 clear hK K
 try simp only [lay]
 refine rd 9 rfl fun K hK=>?_
 go_simp
 refine hK.out _ _ (grown_alloc HE2.out _) (fun hHeld=>?_)
 clear hK K
 try simp only [lay]
 refine wpAnyH_done (by kernel_rfl) ?_ _
 have hJ0:(we.alloc (.cells (ja none) 63)).heap[we.heap.size]?=some (.cells (ja none) 63 (0,0)):=heap_alloc_new _ _
 obtain ⟨BJ,hBJ⟩:∃ B,we.heap.size=B:=⟨_,rfl⟩
 obtain ⟨wJ,hwJ⟩:∃ x,we.alloc (.cells (ja none) 63)=x:=⟨_,rfl⟩
 have HGJ:Hid (wb.grownBy wJ none):=qh (by rw [← hwJ];exact grown_trans HE.out (grown_alloc HE2.out _))
 rw [hwJ,hBJ] at hJ0
 rw [hwJ,hBJ]
 have d0:wJ.cell? ⟨BJ,0,none⟩=some (.bool false):=by rw [cell_of_row _ _ _ _ _ _ hJ0];have:=jt_is none;simpa [ja] using this
 have d26:wJ.cell? ⟨BJ,26,none⟩=some (.bool false):=by rw [cell_of_row _ _ _ _ _ _ hJ0];have:=jt_none.2.1;simpa [ja] using this
 obtain ⟨c0,c1⟩:=HNK.out wJ HGJ.out
 clear hJ0 hBJ hwJ hsz hst
 go_wp2_with (first
  | (go_at_call 38;((with_reducible refine (HN.out _).mono ?_);rintro e w6 ⟨rfl,rfl⟩)))
 go_ret
 exact ⟨rfl,grown_trans HG.out HGJ.out⟩
theorem rready_p1 (A:RefAt w h c F H) (n:Nt) (hf:fits c n) (ht:n.t=-1) (hn:net n.k ≠ 0) (hk:n.k ≠ 11) (j:Jb) (ho:jbOf H n.b.toNat=some j) (hd:j.d=true):Calls Tryz.prog 11 #[.pointer (some ⟨h,0,none⟩),.agg (na n)] w fun e w'=>e = .returned (.int .i64 (ready c H n))∧w.grownBy w' none:=by
 obtain ⟨wb,hwb⟩:∃ wb,w.alloc (.cells (na n) 45)=wb:=⟨_,rfl⟩
 have hgb:w.grownBy wb none:=by rw [← hwb];exact grown_alloc (grown_refl _ _) _
 have HA:Hid (∀ w',wb.grownBy w' none→RefAt w' h c F H):=qh fun w' h'=>A.grown (grown_trans hgb h')
 obtain ⟨t',mm,HTT,hagg,hsize,hld⟩:=tt.named
 obtain ⟨tc,mc,HTC,haggc,hsizec,hldc⟩:=namedC
 have hbx:wb.heap[w.heap.size]?=some (.cells (na n) 45 (0,0)):=by rw [← hwb];exact heap_alloc_new _ _
 have HR:Hid (∀ w',wb.grownBy w' none→w'.rangeAt w.heap.size 0 (nt n)):=qh fun w' h=>tt.range_grown (tt.range_of hbx) h (by simp)
 have HK:Hid (∀ w',wb.grownBy w' none→(loadCellsFrom ⟨h,0,none⟩ 0 mc #[]).run Tryz.prog w' = .ok c.cells w'∧(loadCellsFrom ⟨w.heap.size,0,none⟩ 0 mm #[]).run Tryz.prog w' = .ok (na n) w'∧w'.cell? ⟨w.heap.size,2,none⟩=some (.int .i64 n.t)):=qh fun w' h'=>⟨hldc _ _ _ (HA.out w' h').plan,hld _ _ _ (HR.out w' h'),tt.cell_at (HR.out w' h') 2 _ rfl⟩
 have HF:Hid (∀ w':World,Calls Tryz.prog 37 #[.agg c.cells,.agg (na n)] w' _):=qh fun w'=>tt.rfits_any c n w' A.inv.may
 have HG:=qh hgb
 rw [decide_eq_true hf] at HF
 have hr:ready c H n=8:=by
  unfold ready
  rw [if_neg (show ¬ (¬ fits c n ∨ n.t ≠ -1) from fun e=>e.elim (fun e=>e hf) (fun e=>e ht)),if_neg hn,ho]
  dsimp only
  rw [if_neg hk,if_neg (fun e=>by rw [hd] at e;exact absurd e.1 (by simp))]
 have e1:(n.t != -1)=false:=by simpa using ht
 have e2:(net n.k == 0)=false:=by simpa using hn
 have e3:(n.k == 11)=false:=by simpa using hk
 obtain ⟨hb0,hb1⟩:=blk_lt hf
 have hbj:n.b.toNat < H.jb.length:=by rw [A.inv.lj];exact hb1
 obtain ⟨_,hf0,hf15⟩:=to_home hf ht
 have hwl:=(A.inv.jobs _ j (jbOf_get ho)).w
 have HHA:Hid (∀ w',_):=qh fun w'=>Go.Proofs.YtenhdijbcdkfbaaGreatDoor.mm.rhas_any j.w n.f w' hwl
 rw [ha_of ⟨by omega,hf15⟩ hf0] at HHA
 obtain ⟨b,hb⟩:∃ b,b=n.b.toNat:=⟨_,rfl⟩
 have hbn:n.b=(b:Int):=by omega
 rw [← hb] at hbj ho
 obtain ⟨g,off,cap,hjv,_⟩:=A.jobRange hbj
 obtain ⟨q,hq⟩:∃ q,q=H.jb.length:=⟨_,rfl⟩
 have hlt:b < q:=by rw [hq];exact hbj
 rw [← hq] at hjv
 obtain ⟨o,hoo⟩:∃ o,o=jbOf H b:=⟨_,rfl⟩
 obtain ⟨tj,mj,HTJ,haggj,hsizej,hldj⟩:=namedJ
 have HKJ:Hid (∀ w',wb.grownBy w' none→w'.cell? ⟨h,10,none⟩=some (.slice (some ⟨g,off,none⟩) q cap)∧(loadCellsFrom ⟨g,off + b * 29,none⟩ 0 mj #[]).run Tryz.prog w' = .ok (ja o) w'∧w'.cell? ⟨w.heap.size,3,none⟩=some (.int .i64 (b:Int))):=qh fun w' h'=>by
  obtain ⟨g2,o2,c2,e2,hr2⟩:=(HA.out w' h').jobRange hbj
  rw [hjv,← hq] at e2
  cases e2
  exact ⟨by rw [(HA.out w' h').parts.2.2.1,hjv],by rw [hoo];exact hldj _ _ _ _ hr2,by rw [← hbn];exact tt.cell_at (HR.out w' h') 3 _ rfl⟩
 have HN:=qh (fun w'=>tt.rnet_any n.k w')
 have HNK:Hid (∀ w',wb.grownBy w' none→w'.cell? ⟨w.heap.size,0,none⟩=some (.int .u8 n.k)∧w'.cell? ⟨w.heap.size,1,none⟩=some (.int .i64 n.f)):=qh fun w' h'=>⟨tt.cell_at (HR.out w' h') 0 _ rfl,tt.cell_at (HR.out w' h') 1 _ rfl⟩
 generalize net n.k=nk at HN e2
 rw [ho] at hoo
 subst hoo
 rw [hr]
 clear hr hk hn hf A hgb hbx hld hldc hldj ht hb0 hb1 hb hbn hbj hjv hq ho hwl hf0 hf15
 go_enter Tryz.func11,Tryz.ntmps11
 go_wp2_with fail
 rw [HTT.out,HTC.out]
 refine wp_region_held_drew (S:=fun w'=>wb.grownBy w' none) (by kernel_rfl) (tt.grown_drew (grown_refl _ _)) (fun hHeld=>?_)
 generalize wb.drew=wd at hHeld ⊢
 refine tl 0 ?_ rfl ?_ ?_ (tl 1 ?_ rfl ?_ ?_ (tl 2 ?_ rfl ?_ ?_ (tl 3 ?_ rfl ?_ ?_ (tl 4 ?_ rfl ?_ ?_ ?_))))
 iterate 5 (rotate_left;(next=>(try simp only [lay]);((intro w0 hSw;obtain ⟨hs1,hs2,hs3⟩:=HK.out w0 hSw;go_simp);try (with_reducible rfl)));next=>rfl)
 try simp only [lay]
 refine rd 5 rfl fun K hK=>?_
 go_simp
 (with_reducible refine (HF.out _).mono ?_);rintro e w5 ⟨rfl,hg5⟩
 go_wp2_with fail
 refine hK.out _ _ (grown_trans hHeld hg5) (fun hHeld=>?_)
 clear hK K
 try simp only [lay]
 refine tl 6 ?_ rfl ?_ ?_ (tl 7 ?_ rfl ?_ ?_ (tl 8 ?_ rfl ?_ ?_ (tl 9 ?_ rfl ?_ ?_ (tl 10 ?_ rfl ?_ ?_ (tl 11 ?_ rfl ?_ ?_ ?_)))))
 iterate 6 (rotate_left;(next=>(try simp only [lay]);((intro w0 hSw;obtain ⟨hs1,hs2,hs3⟩:=HK.out w0 hSw;go_simp);try (with_reducible rfl)));next=>rfl)
 try simp only [lay]
 refine wpAnyH_done (by kernel_rfl) ?_ _
 have HE:=qh hHeld
 go_wp2_with fail
 rw [HTJ.out]
 refine wp_region_held_drew (S:=fun w'=>w5.grownBy w' none) (by kernel_rfl) (tt.grown_drew (grown_refl _ _)) (fun hHeld=>?_)
 generalize w5.drew=we at hHeld ⊢
 have HE2:=qh hHeld
 refine tl 0 ?_ rfl ?_ ?_ (tl 1 ?_ rfl ?_ ?_ (tl 2 ?_ rfl ?_ ?_ (tl 3 ?_ rfl ?_ ?_ (tl 4 ?_ rfl ?_ ?_ (tl 5 ?_ rfl ?_ ?_ (tl 6 ?_ rfl ?_ ?_ (tl 7 ?_ rfl ?_ ?_ ?_)))))))
 iterate 8 (rotate_left;(next=>(try simp only [lay]);((intro w0 hSw;obtain ⟨hs1,hs2,hs3⟩:=HKJ.out w0 (grown_trans HE.out hSw);go_simp);try (with_reducible rfl)));next=>rfl)
 try simp only [lay]
 have hsz:=ja_size ((some j))
 have hst:=fun (W:World) (cz:Array Value) (hz:cz.size=29)=>run_storeCells_new (P:=Tryz.prog) W 63 cz (ja ((some j))) (jinfoa _) (by rw [ja_size];exact hz) (ja_one _)
 refine rd 8 rfl fun K hK=>?_
 go_simp
 refine hK.out _ _ (grown_alloc HE2.out _) (fun hHeld=>?_)
 clear hK K
 try simp only [lay]
 refine rd 9 rfl fun K hK=>?_
 go_simp
 refine hK.out _ _ (grown_alloc HE2.out _) (fun hHeld=>?_)
 clear hK K
 try simp only [lay]
 refine wpAnyH_done (by kernel_rfl) ?_ _
 have hJ0:(we.alloc (.cells (ja (some j)) 63)).heap[we.heap.size]?=some (.cells (ja (some j)) 63 (0,0)):=heap_alloc_new _ _
 obtain ⟨BJ,hBJ⟩:∃ B,we.heap.size=B:=⟨_,rfl⟩
 obtain ⟨wJ,hwJ⟩:∃ x,we.alloc (.cells (ja (some j)) 63)=x:=⟨_,rfl⟩
 have HGJ:Hid (wb.grownBy wJ none):=qh (by rw [← hwJ];exact grown_trans HE.out (grown_alloc HE2.out _))
 rw [hwJ,hBJ] at hJ0
 rw [hwJ,hBJ]
 have d0:wJ.cell? ⟨BJ,0,none⟩=some (.bool true):=by rw [cell_of_row _ _ _ _ _ _ hJ0];have:=jt_is (some j);simpa [ja] using this
 have d2:wJ.cell? ⟨BJ,2,none⟩=some (.int .i64 j.a.f):=by rw [cell_of_row _ _ _ _ _ _ hJ0];have:=jt_nt j 1 _ rfl;simpa [ja] using this
 have d25:wJ.cell? ⟨BJ,25,none⟩=some (.int .u32 (j.w:Int)):=by rw [cell_of_row _ _ _ _ _ _ hJ0];have:=(jt_last j).1;simpa [ja] using this
 have d26:wJ.cell? ⟨BJ,26,none⟩=some (.bool j.d):=by rw [cell_of_row _ _ _ _ _ _ hJ0];have:=(jt_last j).2.1;simpa [ja] using this
 rw [hd] at d26
 obtain ⟨c0,c1⟩:=HNK.out wJ HGJ.out
 clear hJ0 hBJ hwJ hsz hst
 go_wp2_with (first
  | (go_at_call 38;((with_reducible refine (HN.out _).mono ?_);rintro e w6 ⟨rfl,rfl⟩))
  | (go_at_call 39;((with_reducible refine (HHA.out _).mono ?_);rintro e w7 ⟨rfl,rfl⟩)))
 go_ret
 exact ⟨rfl,grown_trans HG.out HGJ.out⟩
theorem rready_p2 (A:RefAt w h c F H) (n:Nt) (hf:fits c n) (ht:n.t=-1) (hn:net n.k ≠ 0) (hk:n.k ≠ 11) (j:Jb) (ho:jbOf H n.b.toNat=some j) (hd:j.d=false) (hx:j.w.testBit n.f.toNat=false):Calls Tryz.prog 11 #[.pointer (some ⟨h,0,none⟩),.agg (na n)] w fun e w'=>e = .returned (.int .i64 (ready c H n))∧w.grownBy w' none:=by
 obtain ⟨wb,hwb⟩:∃ wb,w.alloc (.cells (na n) 45)=wb:=⟨_,rfl⟩
 have hgb:w.grownBy wb none:=by rw [← hwb];exact grown_alloc (grown_refl _ _) _
 have HA:Hid (∀ w',wb.grownBy w' none→RefAt w' h c F H):=qh fun w' h'=>A.grown (grown_trans hgb h')
 obtain ⟨t',mm,HTT,hagg,hsize,hld⟩:=tt.named
 obtain ⟨tc,mc,HTC,haggc,hsizec,hldc⟩:=namedC
 have hbx:wb.heap[w.heap.size]?=some (.cells (na n) 45 (0,0)):=by rw [← hwb];exact heap_alloc_new _ _
 have HR:Hid (∀ w',wb.grownBy w' none→w'.rangeAt w.heap.size 0 (nt n)):=qh fun w' h=>tt.range_grown (tt.range_of hbx) h (by simp)
 have HK:Hid (∀ w',wb.grownBy w' none→(loadCellsFrom ⟨h,0,none⟩ 0 mc #[]).run Tryz.prog w' = .ok c.cells w'∧(loadCellsFrom ⟨w.heap.size,0,none⟩ 0 mm #[]).run Tryz.prog w' = .ok (na n) w'∧w'.cell? ⟨w.heap.size,2,none⟩=some (.int .i64 n.t)):=qh fun w' h'=>⟨hldc _ _ _ (HA.out w' h').plan,hld _ _ _ (HR.out w' h'),tt.cell_at (HR.out w' h') 2 _ rfl⟩
 have HF:Hid (∀ w':World,Calls Tryz.prog 37 #[.agg c.cells,.agg (na n)] w' _):=qh fun w'=>tt.rfits_any c n w' A.inv.may
 have HG:=qh hgb
 rw [decide_eq_true hf] at HF
 have hr:ready c H n=8:=by
  unfold ready
  rw [if_neg (show ¬ (¬ fits c n ∨ n.t ≠ -1) from fun e=>e.elim (fun e=>e hf) (fun e=>e ht)),if_neg hn,ho]
  dsimp only
  rw [if_neg hk,if_neg (fun e=>by rw [hx] at e;exact absurd e.2 (by simp))]
 have e1:(n.t != -1)=false:=by simpa using ht
 have e2:(net n.k == 0)=false:=by simpa using hn
 have e3:(n.k == 11)=false:=by simpa using hk
 obtain ⟨hb0,hb1⟩:=blk_lt hf
 have hbj:n.b.toNat < H.jb.length:=by rw [A.inv.lj];exact hb1
 obtain ⟨_,hf0,hf15⟩:=to_home hf ht
 have hwl:=(A.inv.jobs _ j (jbOf_get ho)).w
 have HHA:Hid (∀ w',_):=qh fun w'=>Go.Proofs.YtenhdijbcdkfbaaGreatDoor.mm.rhas_any j.w n.f w' hwl
 rw [ha_of ⟨by omega,hf15⟩ hf0,hx] at HHA
 obtain ⟨b,hb⟩:∃ b,b=n.b.toNat:=⟨_,rfl⟩
 have hbn:n.b=(b:Int):=by omega
 rw [← hb] at hbj ho
 obtain ⟨g,off,cap,hjv,_⟩:=A.jobRange hbj
 obtain ⟨q,hq⟩:∃ q,q=H.jb.length:=⟨_,rfl⟩
 have hlt:b < q:=by rw [hq];exact hbj
 rw [← hq] at hjv
 obtain ⟨o,hoo⟩:∃ o,o=jbOf H b:=⟨_,rfl⟩
 obtain ⟨tj,mj,HTJ,haggj,hsizej,hldj⟩:=namedJ
 have HKJ:Hid (∀ w',wb.grownBy w' none→w'.cell? ⟨h,10,none⟩=some (.slice (some ⟨g,off,none⟩) q cap)∧(loadCellsFrom ⟨g,off + b * 29,none⟩ 0 mj #[]).run Tryz.prog w' = .ok (ja o) w'∧w'.cell? ⟨w.heap.size,3,none⟩=some (.int .i64 (b:Int))):=qh fun w' h'=>by
  obtain ⟨g2,o2,c2,e2,hr2⟩:=(HA.out w' h').jobRange hbj
  rw [hjv,← hq] at e2
  cases e2
  exact ⟨by rw [(HA.out w' h').parts.2.2.1,hjv],by rw [hoo];exact hldj _ _ _ _ hr2,by rw [← hbn];exact tt.cell_at (HR.out w' h') 3 _ rfl⟩
 have HN:=qh (fun w'=>tt.rnet_any n.k w')
 have HNK:Hid (∀ w',wb.grownBy w' none→w'.cell? ⟨w.heap.size,0,none⟩=some (.int .u8 n.k)∧w'.cell? ⟨w.heap.size,1,none⟩=some (.int .i64 n.f)):=qh fun w' h'=>⟨tt.cell_at (HR.out w' h') 0 _ rfl,tt.cell_at (HR.out w' h') 1 _ rfl⟩
 generalize net n.k=nk at HN e2
 rw [ho] at hoo
 subst hoo
 rw [hr]
 clear hr hx hk hn hf A hgb hbx hld hldc hldj ht hb0 hb1 hb hbn hbj hjv hq ho hwl hf0 hf15
 go_enter Tryz.func11,Tryz.ntmps11
 go_wp2_with fail
 rw [HTT.out,HTC.out]
 refine wp_region_held_drew (S:=fun w'=>wb.grownBy w' none) (by kernel_rfl) (tt.grown_drew (grown_refl _ _)) (fun hHeld=>?_)
 generalize wb.drew=wd at hHeld ⊢
 refine tl 0 ?_ rfl ?_ ?_ (tl 1 ?_ rfl ?_ ?_ (tl 2 ?_ rfl ?_ ?_ (tl 3 ?_ rfl ?_ ?_ (tl 4 ?_ rfl ?_ ?_ ?_))))
 iterate 5 (rotate_left;(next=>(try simp only [lay]);((intro w0 hSw;obtain ⟨hs1,hs2,hs3⟩:=HK.out w0 hSw;go_simp);try (with_reducible rfl)));next=>rfl)
 try simp only [lay]
 refine rd 5 rfl fun K hK=>?_
 go_simp
 (with_reducible refine (HF.out _).mono ?_);rintro e w5 ⟨rfl,hg5⟩
 go_wp2_with fail
 refine hK.out _ _ (grown_trans hHeld hg5) (fun hHeld=>?_)
 clear hK K
 try simp only [lay]
 refine tl 6 ?_ rfl ?_ ?_ (tl 7 ?_ rfl ?_ ?_ (tl 8 ?_ rfl ?_ ?_ (tl 9 ?_ rfl ?_ ?_ (tl 10 ?_ rfl ?_ ?_ (tl 11 ?_ rfl ?_ ?_ ?_)))))
 iterate 6 (rotate_left;(next=>(try simp only [lay]);((intro w0 hSw;obtain ⟨hs1,hs2,hs3⟩:=HK.out w0 hSw;go_simp);try (with_reducible rfl)));next=>rfl)
 try simp only [lay]
 refine wpAnyH_done (by kernel_rfl) ?_ _
 have HE:=qh hHeld
 go_wp2_with fail
 rw [HTJ.out]
 refine wp_region_held_drew (S:=fun w'=>w5.grownBy w' none) (by kernel_rfl) (tt.grown_drew (grown_refl _ _)) (fun hHeld=>?_)
 generalize w5.drew=we at hHeld ⊢
 have HE2:=qh hHeld
 refine tl 0 ?_ rfl ?_ ?_ (tl 1 ?_ rfl ?_ ?_ (tl 2 ?_ rfl ?_ ?_ (tl 3 ?_ rfl ?_ ?_ (tl 4 ?_ rfl ?_ ?_ (tl 5 ?_ rfl ?_ ?_ (tl 6 ?_ rfl ?_ ?_ (tl 7 ?_ rfl ?_ ?_ ?_)))))))
 iterate 8 (rotate_left;(next=>(try simp only [lay]);((intro w0 hSw;obtain ⟨hs1,hs2,hs3⟩:=HKJ.out w0 (grown_trans HE.out hSw);go_simp);try (with_reducible rfl)));next=>rfl)
 try simp only [lay]
 have hsz:=ja_size ((some j))
 have hst:=fun (W:World) (cz:Array Value) (hz:cz.size=29)=>run_storeCells_new (P:=Tryz.prog) W 63 cz (ja ((some j))) (jinfoa _) (by rw [ja_size];exact hz) (ja_one _)
 refine rd 8 rfl fun K hK=>?_
 go_simp
 refine hK.out _ _ (grown_alloc HE2.out _) (fun hHeld=>?_)
 clear hK K
 try simp only [lay]
 refine rd 9 rfl fun K hK=>?_
 go_simp
 refine hK.out _ _ (grown_alloc HE2.out _) (fun hHeld=>?_)
 clear hK K
 try simp only [lay]
 refine wpAnyH_done (by kernel_rfl) ?_ _
 have hJ0:(we.alloc (.cells (ja (some j)) 63)).heap[we.heap.size]?=some (.cells (ja (some j)) 63 (0,0)):=heap_alloc_new _ _
 obtain ⟨BJ,hBJ⟩:∃ B,we.heap.size=B:=⟨_,rfl⟩
 obtain ⟨wJ,hwJ⟩:∃ x,we.alloc (.cells (ja (some j)) 63)=x:=⟨_,rfl⟩
 have HGJ:Hid (wb.grownBy wJ none):=qh (by rw [← hwJ];exact grown_trans HE.out (grown_alloc HE2.out _))
 rw [hwJ,hBJ] at hJ0
 rw [hwJ,hBJ]
 have d0:wJ.cell? ⟨BJ,0,none⟩=some (.bool true):=by rw [cell_of_row _ _ _ _ _ _ hJ0];have:=jt_is (some j);simpa [ja] using this
 have d2:wJ.cell? ⟨BJ,2,none⟩=some (.int .i64 j.a.f):=by rw [cell_of_row _ _ _ _ _ _ hJ0];have:=jt_nt j 1 _ rfl;simpa [ja] using this
 have d25:wJ.cell? ⟨BJ,25,none⟩=some (.int .u32 (j.w:Int)):=by rw [cell_of_row _ _ _ _ _ _ hJ0];have:=(jt_last j).1;simpa [ja] using this
 have d26:wJ.cell? ⟨BJ,26,none⟩=some (.bool j.d):=by rw [cell_of_row _ _ _ _ _ _ hJ0];have:=(jt_last j).2.1;simpa [ja] using this
 rw [hd] at d26
 obtain ⟨c0,c1⟩:=HNK.out wJ HGJ.out
 clear hJ0 hBJ hwJ hsz hst
 go_wp2_with (first
  | (go_at_call 38;((with_reducible refine (HN.out _).mono ?_);rintro e w6 ⟨rfl,rfl⟩))
  | (go_at_call 39;((with_reducible refine (HHA.out _).mono ?_);rintro e w7 ⟨rfl,rfl⟩)))
 go_ret
 exact ⟨rfl,grown_trans HG.out HGJ.out⟩
theorem rready_p3 (A:RefAt w h c F H) (n:Nt) (hf:fits c n) (ht:n.t=-1) (hn:net n.k ≠ 0) (hk:n.k ≠ 11) (j:Jb) (ho:jbOf H n.b.toNat=some j) (hd:j.d=false) (hx:j.w.testBit n.f.toNat=true):Calls Tryz.prog 11 #[.pointer (some ⟨h,0,none⟩),.agg (na n)] w fun e w'=>e = .returned (.int .i64 (ready c H n))∧w.grownBy w' none:=by
 obtain ⟨wb,hwb⟩:∃ wb,w.alloc (.cells (na n) 45)=wb:=⟨_,rfl⟩
 have hgb:w.grownBy wb none:=by rw [← hwb];exact grown_alloc (grown_refl _ _) _
 have HA:Hid (∀ w',wb.grownBy w' none→RefAt w' h c F H):=qh fun w' h'=>A.grown (grown_trans hgb h')
 obtain ⟨t',mm,HTT,hagg,hsize,hld⟩:=tt.named
 obtain ⟨tc,mc,HTC,haggc,hsizec,hldc⟩:=namedC
 have hbx:wb.heap[w.heap.size]?=some (.cells (na n) 45 (0,0)):=by rw [← hwb];exact heap_alloc_new _ _
 have HR:Hid (∀ w',wb.grownBy w' none→w'.rangeAt w.heap.size 0 (nt n)):=qh fun w' h=>tt.range_grown (tt.range_of hbx) h (by simp)
 have HK:Hid (∀ w',wb.grownBy w' none→(loadCellsFrom ⟨h,0,none⟩ 0 mc #[]).run Tryz.prog w' = .ok c.cells w'∧(loadCellsFrom ⟨w.heap.size,0,none⟩ 0 mm #[]).run Tryz.prog w' = .ok (na n) w'∧w'.cell? ⟨w.heap.size,2,none⟩=some (.int .i64 n.t)):=qh fun w' h'=>⟨hldc _ _ _ (HA.out w' h').plan,hld _ _ _ (HR.out w' h'),tt.cell_at (HR.out w' h') 2 _ rfl⟩
 have HF:Hid (∀ w':World,Calls Tryz.prog 37 #[.agg c.cells,.agg (na n)] w' _):=qh fun w'=>tt.rfits_any c n w' A.inv.may
 have HG:=qh hgb
 rw [decide_eq_true hf] at HF
 have hr:ready c H n=0:=by
  unfold ready
  rw [if_neg (show ¬ (¬ fits c n ∨ n.t ≠ -1) from fun e=>e.elim (fun e=>e hf) (fun e=>e ht)),if_neg hn,ho]
  dsimp only
  rw [if_neg hk,if_pos ⟨hd,hx⟩]
 have e1:(n.t != -1)=false:=by simpa using ht
 have e2:(net n.k == 0)=false:=by simpa using hn
 have e3:(n.k == 11)=false:=by simpa using hk
 obtain ⟨hb0,hb1⟩:=blk_lt hf
 have hbj:n.b.toNat < H.jb.length:=by rw [A.inv.lj];exact hb1
 obtain ⟨_,hf0,hf15⟩:=to_home hf ht
 have hwl:=(A.inv.jobs _ j (jbOf_get ho)).w
 have HHA:Hid (∀ w',_):=qh fun w'=>Go.Proofs.YtenhdijbcdkfbaaGreatDoor.mm.rhas_any j.w n.f w' hwl
 rw [ha_of ⟨by omega,hf15⟩ hf0,hx] at HHA
 obtain ⟨b,hb⟩:∃ b,b=n.b.toNat:=⟨_,rfl⟩
 have hbn:n.b=(b:Int):=by omega
 rw [← hb] at hbj ho
 obtain ⟨g,off,cap,hjv,_⟩:=A.jobRange hbj
 obtain ⟨q,hq⟩:∃ q,q=H.jb.length:=⟨_,rfl⟩
 have hlt:b < q:=by rw [hq];exact hbj
 rw [← hq] at hjv
 obtain ⟨o,hoo⟩:∃ o,o=jbOf H b:=⟨_,rfl⟩
 obtain ⟨tj,mj,HTJ,haggj,hsizej,hldj⟩:=namedJ
 have HKJ:Hid (∀ w',wb.grownBy w' none→w'.cell? ⟨h,10,none⟩=some (.slice (some ⟨g,off,none⟩) q cap)∧(loadCellsFrom ⟨g,off + b * 29,none⟩ 0 mj #[]).run Tryz.prog w' = .ok (ja o) w'∧w'.cell? ⟨w.heap.size,3,none⟩=some (.int .i64 (b:Int))):=qh fun w' h'=>by
  obtain ⟨g2,o2,c2,e2,hr2⟩:=(HA.out w' h').jobRange hbj
  rw [hjv,← hq] at e2
  cases e2
  exact ⟨by rw [(HA.out w' h').parts.2.2.1,hjv],by rw [hoo];exact hldj _ _ _ _ hr2,by rw [← hbn];exact tt.cell_at (HR.out w' h') 3 _ rfl⟩
 have HN:=qh (fun w'=>tt.rnet_any n.k w')
 have HNK:Hid (∀ w',wb.grownBy w' none→w'.cell? ⟨w.heap.size,0,none⟩=some (.int .u8 n.k)∧w'.cell? ⟨w.heap.size,1,none⟩=some (.int .i64 n.f)):=qh fun w' h'=>⟨tt.cell_at (HR.out w' h') 0 _ rfl,tt.cell_at (HR.out w' h') 1 _ rfl⟩
 generalize net n.k=nk at HN e2
 rw [ho] at hoo
 subst hoo
 rw [hr]
 clear hr hx hk hn hf A hgb hbx hld hldc hldj ht hb0 hb1 hb hbn hbj hjv hq ho hwl hf0 hf15
 go_enter Tryz.func11,Tryz.ntmps11
 go_wp2_with fail
 rw [HTT.out,HTC.out]
 refine wp_region_held_drew (S:=fun w'=>wb.grownBy w' none) (by kernel_rfl) (tt.grown_drew (grown_refl _ _)) (fun hHeld=>?_)
 generalize wb.drew=wd at hHeld ⊢
 refine tl 0 ?_ rfl ?_ ?_ (tl 1 ?_ rfl ?_ ?_ (tl 2 ?_ rfl ?_ ?_ (tl 3 ?_ rfl ?_ ?_ (tl 4 ?_ rfl ?_ ?_ ?_))))
 iterate 5 (rotate_left;(next=>(try simp only [lay]);((intro w0 hSw;obtain ⟨hs1,hs2,hs3⟩:=HK.out w0 hSw;go_simp);try (with_reducible rfl)));next=>rfl)
 try simp only [lay]
 refine rd 5 rfl fun K hK=>?_
 go_simp
 (with_reducible refine (HF.out _).mono ?_);rintro e w5 ⟨rfl,hg5⟩
 go_wp2_with fail
 refine hK.out _ _ (grown_trans hHeld hg5) (fun hHeld=>?_)
 clear hK K
 try simp only [lay]
 refine tl 6 ?_ rfl ?_ ?_ (tl 7 ?_ rfl ?_ ?_ (tl 8 ?_ rfl ?_ ?_ (tl 9 ?_ rfl ?_ ?_ (tl 10 ?_ rfl ?_ ?_ (tl 11 ?_ rfl ?_ ?_ ?_)))))
 iterate 6 (rotate_left;(next=>(try simp only [lay]);((intro w0 hSw;obtain ⟨hs1,hs2,hs3⟩:=HK.out w0 hSw;go_simp);try (with_reducible rfl)));next=>rfl)
 try simp only [lay]
 refine wpAnyH_done (by kernel_rfl) ?_ _
 have HE:=qh hHeld
 go_wp2_with fail
 rw [HTJ.out]
 refine wp_region_held_drew (S:=fun w'=>w5.grownBy w' none) (by kernel_rfl) (tt.grown_drew (grown_refl _ _)) (fun hHeld=>?_)
 generalize w5.drew=we at hHeld ⊢
 have HE2:=qh hHeld
 refine tl 0 ?_ rfl ?_ ?_ (tl 1 ?_ rfl ?_ ?_ (tl 2 ?_ rfl ?_ ?_ (tl 3 ?_ rfl ?_ ?_ (tl 4 ?_ rfl ?_ ?_ (tl 5 ?_ rfl ?_ ?_ (tl 6 ?_ rfl ?_ ?_ (tl 7 ?_ rfl ?_ ?_ ?_)))))))
 iterate 8 (rotate_left;(next=>(try simp only [lay]);((intro w0 hSw;obtain ⟨hs1,hs2,hs3⟩:=HKJ.out w0 (grown_trans HE.out hSw);go_simp);try (with_reducible rfl)));next=>rfl)
 try simp only [lay]
 have hsz:=ja_size ((some j))
 have hst:=fun (W:World) (cz:Array Value) (hz:cz.size=29)=>run_storeCells_new (P:=Tryz.prog) W 63 cz (ja ((some j))) (jinfoa _) (by rw [ja_size];exact hz) (ja_one _)
 refine rd 8 rfl fun K hK=>?_
 go_simp
 refine hK.out _ _ (grown_alloc HE2.out _) (fun hHeld=>?_)
 clear hK K
 try simp only [lay]
 refine rd 9 rfl fun K hK=>?_
 go_simp
 refine hK.out _ _ (grown_alloc HE2.out _) (fun hHeld=>?_)
 clear hK K
 try simp only [lay]
 refine wpAnyH_done (by kernel_rfl) ?_ _
 have hJ0:(we.alloc (.cells (ja (some j)) 63)).heap[we.heap.size]?=some (.cells (ja (some j)) 63 (0,0)):=heap_alloc_new _ _
 obtain ⟨BJ,hBJ⟩:∃ B,we.heap.size=B:=⟨_,rfl⟩
 obtain ⟨wJ,hwJ⟩:∃ x,we.alloc (.cells (ja (some j)) 63)=x:=⟨_,rfl⟩
 have HGJ:Hid (wb.grownBy wJ none):=qh (by rw [← hwJ];exact grown_trans HE.out (grown_alloc HE2.out _))
 rw [hwJ,hBJ] at hJ0
 rw [hwJ,hBJ]
 have d0:wJ.cell? ⟨BJ,0,none⟩=some (.bool true):=by rw [cell_of_row _ _ _ _ _ _ hJ0];have:=jt_is (some j);simpa [ja] using this
 have d2:wJ.cell? ⟨BJ,2,none⟩=some (.int .i64 j.a.f):=by rw [cell_of_row _ _ _ _ _ _ hJ0];have:=jt_nt j 1 _ rfl;simpa [ja] using this
 have d25:wJ.cell? ⟨BJ,25,none⟩=some (.int .u32 (j.w:Int)):=by rw [cell_of_row _ _ _ _ _ _ hJ0];have:=(jt_last j).1;simpa [ja] using this
 have d26:wJ.cell? ⟨BJ,26,none⟩=some (.bool j.d):=by rw [cell_of_row _ _ _ _ _ _ hJ0];have:=(jt_last j).2.1;simpa [ja] using this
 rw [hd] at d26
 obtain ⟨c0,c1⟩:=HNK.out wJ HGJ.out
 clear hJ0 hBJ hwJ hsz hst
 go_wp2_with (first
  | (go_at_call 38;((with_reducible refine (HN.out _).mono ?_);rintro e w6 ⟨rfl,rfl⟩))
  | (go_at_call 39;((with_reducible refine (HHA.out _).mono ?_);rintro e w7 ⟨rfl,rfl⟩)))
 go_ret
 exact ⟨rfl,grown_trans HG.out HGJ.out⟩
theorem rready_any (A:RefAt w h c F H) (n:Nt):Calls Tryz.prog 11 #[.pointer (some ⟨h,0,none⟩),.agg (na n)] w fun e w'=>e = .returned (.int .i64 (ready c H n))∧w.grownBy w' none:=by
 by_cases hf:fits c n
 ·by_cases ht:n.t=-1
  ·by_cases hn:net n.k=0
   ·cases ho:jbOf H n.b.toNat with
    | none=>exact rready_n0 A n hf ht hn ho
    | some j=>
     by_cases hr:roomH c ≤ (H.wt.length:Int)
     ·exact rready_n1 A n hf ht hn j ho hr
     ·exact rready_n2 A n hf ht hn j ho hr
   ·by_cases hk:n.k=11
    ·cases ho:jbOf H n.b.toNat with
     | none=>exact rready_m0 A n hf ht hn hk ho
     | some j=>
      cases hd:j.d with
      | false=>exact rready_m1 A n hf ht hn hk j ho hd
      | true=>
       by_cases hx:j.a.f=n.f
       ·exact rready_m3 A n hf ht hn hk j ho hd hx
       ·exact rready_m2 A n hf ht hn hk j ho hd hx
    ·cases ho:jbOf H n.b.toNat with
     | none=>exact rready_p0 A n hf ht hn hk ho
     | some j=>
      cases hd:j.d with
      | true=>exact rready_p1 A n hf ht hn hk j ho hd
      | false=>
       cases hx:j.w.testBit n.f.toNat with
       | false=>exact rready_p2 A n hf ht hn hk j ho hd hx
       | true=>exact rready_p3 A n hf ht hn hk j ho hd hx
  ·exact rready_b A n hf ht
 ·exact rready_a A n hf
end
end Go.Proofs.YtenhdijbcdkfbaaGreatDoor.hh
