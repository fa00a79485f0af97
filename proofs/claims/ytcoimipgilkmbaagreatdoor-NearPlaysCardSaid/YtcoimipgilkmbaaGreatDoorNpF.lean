/-
 What the document's Take answers of a note that is none for it. Conditions: as NrE names them.
-/
import Derived.Test.YtcoimipgilkmbaaGreatDoorTl
import Derived.Test.YtcoimipgilkmbaaGreatDoorNpE
namespace Go.Proofs.YtcoimipgilkmbaaGreatDoor.np
set_option linter.unusedVariables false
set_option linter.unusedSimpArgs false
set_option maxRecDepth 1000000
set_option maxHeartbeats 16000000
open Go Go.ChangeShapes Go.WideShapes Go.ChangeAt Go.RowKit Go.Shelf
open Go.Proofs.YtcoimipgilkmbaaGreatDoor.nr
open Go.Proofs.YtcoimipgilkmbaaGreatDoor.nl (OutN SlN)
open Go.Proofs.YtcoimipgilkmbaaGreatDoor.tt (Cfg Nt na nt zn bare zd fits row tyne lt_of U grown_refl grown_trans grown_alloc grown_setCells grown_drew grown_drewN Sl Next flat)
open Go.Proofs.YtcoimipgilkmbaaGreatDoor.kk (Ln St zl la ln cfind cdrop cuse cgoes cwrite cturn cput setAt setOf live fF Shp Kept)
open Go.Proofs.YtcoimipgilkmbaaGreatDoor.bk (Bk rem kills puts putE fd fl Nd Rg dead fresh)
open Go.Proofs.YtcoimipgilkmbaaGreatDoor.mrk (Ms rdS wrS meets addE Dom)
open Go.Proofs.YtcoimipgilkmbaaGreatDoor.de (Dl sT gE rF aD)
open Go.Proofs.YtcoimipgilkmbaaGreatDoor.oo (ref)
section
variable {w:World} {R:RL} {P:Pm} {k:Nr} (h:RN w R P k) (I:Inv P k) (hP:Pok P) (n:Nt)
include h I hP
omit I in
theorem rtake_fits (hf:¬ fits P.c n):Calls Tryz.prog 71 #[.pointer (some ⟨R.q,0,none⟩),.agg (na n)] w fun e w'=>e = .returned (.tuple #[.slice none 0 0,.bool false,.int .i64 2])∧RN w' R P k∧Kept R.any w w':=by
 have m0:=(Mid.of h).alloc (na n) 37
 obtain ⟨A,hA⟩:∃ A,w.heap.size=A:=⟨_,rfl⟩
 obtain ⟨W0,hW0⟩:∃ W,w.alloc (.cells (na n) 37)=W:=⟨_,rfl⟩
 rw [hW0,hA] at m0
 have M0:=qh m0
 have HFT:=qh fun W=>tt.rfits_any P.c n W hP.may
 obtain ⟨tc,mc,HTC,haggc,hsizec,hldc⟩:=namedC
 obtain ⟨t',mm,HTT,hagg,hsize,hld⟩:=tt.named
 have HK:Hid (∀ W,Mid w W R P k [(A,on n)]→(loadCellsFrom ⟨R.q,0,none⟩ 0 mc #[]).run Tryz.prog W = .ok P.c.cells W∧(loadCellsFrom ⟨A,0,none⟩ 0 mm #[]).run Tryz.prog W = .ok (na n) W∧W.cell? ⟨A,2,none⟩=some (.int .i64 n.t)∧W.cell? ⟨R.q,8,none⟩=some (.int .i64 P.core)):=qh fun W m=>⟨hldc _ _ _ m.rn.cfg,hld _ _ _ (rangeN m (.head _)),cellN m (.head _) 2 _ rfl,m.rn.c1⟩
 rw [decide_eq_false hf] at HFT
 clear h hP m0 hf hldc hld
 go_enter Tryz.func71,Tryz.ntmps71
 go_upto_region 1 with fail
 clear hA hW0
 rw [HTT.out,HTC.out]
 have M0d:=qh (drew M0.out)
 refine wp_region_held_drew (S:=fun W=>Mid w W R P k [(A,on n)]) (by kernel_rfl) M0d.out (fun hHeld=>?_)
 obtain ⟨Wd,hWd⟩:∃ x,W0.drew=x:=⟨_,rfl⟩
 rw [hWd] at M0d hHeld ⊢
 clear hWd hHeld
 have hHeld:=M0d.out
 refine tl 0 ?_ rfl ?_ ?_ (tl 1 ?_ rfl ?_ ?_ (tl 2 ?_ rfl ?_ ?_ (tl 3 ?_ rfl ?_ ?_ (tl 4 ?_ rfl ?_ ?_ ?_))))
 iterate 5 (rotate_left;(next=>(try simp only [lay]);((intro w0 hSw;obtain ⟨hs1,hs2,hs3,hs4⟩:=HK.out _ hSw;go_simp);try (with_reducible rfl)));next=>rfl)
 try simp only [lay]
 refine rd 5 rfl fun K hK=>?_
 go_simp
 (with_reducible refine (HFT.out _).mono ?_);rintro e w1 ⟨rfl,hg1⟩
 have M1:=qh (M0d.out.grown hg1);clear hg1
 go_wp2_with fail
 refine hK.out _ _ (M1.out) (fun hHeld=>?_)
 clear hK K
 try simp only [lay]
 refine tl 6 ?_ rfl ?_ ?_ (tl 7 ?_ rfl ?_ ?_ ?_)
 iterate 2 (rotate_left;(next=>(try simp only [lay]);((intro w0 hSw;go_simp);try (with_reducible rfl)));next=>rfl)
 try simp only [lay]
 refine tu 8 rfl ?_
 try simp only [lay]
 refine tu 9 rfl ?_
 try simp only [lay]
 refine tu 10 rfl ?_
 try simp only [lay]
 refine tu 11 rfl ?_
 try simp only [lay]
 refine tu 12 rfl ?_
 try simp only [lay]
 refine tu 13 rfl ?_
 try simp only [lay]
 refine tu 14 rfl ?_
 try simp only [lay]
 refine tl 15 ?_ rfl ?_ ?_ ?_
 (rotate_left;(next=>((intro w0 hSw;go_simp);try (with_reducible rfl)));next=>rfl)
 try simp only [lay]
 refine wpAnyH_done (by kernel_rfl) ?_ _
 clear hHeld M0d M0 HFT
 go_wp2_with fail
 go_ret3
 exact ⟨rfl,M1.out.rn,M1.out.kp⟩
omit I in
theorem rtake_core (hf:fits P.c n) (ht:n.t ≠ P.core):Calls Tryz.prog 71 #[.pointer (some ⟨R.q,0,none⟩),.agg (na n)] w fun e w'=>e = .returned (.tuple #[.slice none 0 0,.bool false,.int .i64 2])∧RN w' R P k∧Kept R.any w w':=by
 have m0:=(Mid.of h).alloc (na n) 37
 obtain ⟨A,hA⟩:∃ A,w.heap.size=A:=⟨_,rfl⟩
 obtain ⟨W0,hW0⟩:∃ W,w.alloc (.cells (na n) 37)=W:=⟨_,rfl⟩
 rw [hW0,hA] at m0
 have M0:=qh m0
 have HFT:=qh fun W=>tt.rfits_any P.c n W hP.may
 obtain ⟨tc,mc,HTC,haggc,hsizec,hldc⟩:=namedC
 obtain ⟨t',mm,HTT,hagg,hsize,hld⟩:=tt.named
 have HK:Hid (∀ W,Mid w W R P k [(A,on n)]→(loadCellsFrom ⟨R.q,0,none⟩ 0 mc #[]).run Tryz.prog W = .ok P.c.cells W∧(loadCellsFrom ⟨A,0,none⟩ 0 mm #[]).run Tryz.prog W = .ok (na n) W∧W.cell? ⟨A,2,none⟩=some (.int .i64 n.t)∧W.cell? ⟨R.q,8,none⟩=some (.int .i64 P.core)):=qh fun W m=>⟨hldc _ _ _ m.rn.cfg,hld _ _ _ (rangeN m (.head _)),cellN m (.head _) 2 _ rfl,m.rn.c1⟩
 rw [decide_eq_true hf] at HFT
 have e1:(n.t != P.core)=true:=by simpa using ht
 clear h hP m0 hf hldc hld ht
 go_enter Tryz.func71,Tryz.ntmps71
 go_upto_region 1 with fail
 clear hA hW0
 rw [HTT.out,HTC.out]
 have M0d:=qh (drew M0.out)
 refine wp_region_held_drew (S:=fun W=>Mid w W R P k [(A,on n)]) (by kernel_rfl) M0d.out (fun hHeld=>?_)
 obtain ⟨Wd,hWd⟩:∃ x,W0.drew=x:=⟨_,rfl⟩
 rw [hWd] at M0d hHeld ⊢
 clear hWd hHeld
 have hHeld:=M0d.out
 refine tl 0 ?_ rfl ?_ ?_ (tl 1 ?_ rfl ?_ ?_ (tl 2 ?_ rfl ?_ ?_ (tl 3 ?_ rfl ?_ ?_ (tl 4 ?_ rfl ?_ ?_ ?_))))
 iterate 5 (rotate_left;(next=>(try simp only [lay]);((intro w0 hSw;obtain ⟨hs1,hs2,hs3,hs4⟩:=HK.out _ hSw;go_simp);try (with_reducible rfl)));next=>rfl)
 try simp only [lay]
 refine rd 5 rfl fun K hK=>?_
 go_simp
 (with_reducible refine (HFT.out _).mono ?_);rintro e w1 ⟨rfl,hg1⟩
 have M1:=qh (M0d.out.grown hg1);clear hg1
 go_wp2_with fail
 refine hK.out _ _ (M1.out) (fun hHeld=>?_)
 clear hK K
 try simp only [lay]
 refine tl 6 ?_ rfl ?_ ?_ (tl 7 ?_ rfl ?_ ?_ (tl 8 ?_ rfl ?_ ?_ (tl 9 ?_ rfl ?_ ?_ (tl 10 ?_ rfl ?_ ?_ ?_))))
 iterate 5 (rotate_left;(next=>(try simp only [lay]);((intro w0 hSw;obtain ⟨hs1,hs2,hs3,hs4⟩:=HK.out _ hSw;go_simp);try (with_reducible rfl)));next=>rfl)
 try simp only [lay]
 refine tl 11 ?_ rfl ?_ ?_ (tl 12 ?_ rfl ?_ ?_ (tl 13 ?_ rfl ?_ ?_ (tl 14 ?_ rfl ?_ ?_ (tl 15 ?_ rfl ?_ ?_ ?_))))
 iterate 5 (rotate_left;(next=>(try simp only [lay]);((intro w0 hSw;obtain ⟨hs1,hs2,hs3,hs4⟩:=HK.out _ hSw;go_simp);try (with_reducible rfl)));next=>rfl)
 try simp only [lay]
 refine wpAnyH_done (by kernel_rfl) ?_ _
 clear hHeld M0d M0 HFT
 go_wp2_with fail
 go_ret3
 exact ⟨rfl,M1.out.rn,M1.out.kp⟩
end
end Go.Proofs.YtcoimipgilkmbaaGreatDoor.np
