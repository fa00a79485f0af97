/-
 Whether a note fits; what a near hands over: contracts. Conditions: as NlA names them.
-/
import Derived.Test.YtcoimipgilkmbaaGreatDoorTl
import Derived.Test.YtcoimipgilkmbaaGreatDoorNlJ
namespace Go.Proofs.YtcoimipgilkmbaaGreatDoor.nl
set_option linter.unusedVariables false
set_option linter.unusedSimpArgs false
set_option maxRecDepth 1000000
set_option maxHeartbeats 16000000
open Go Go.ChangeShapes Go.WideShapes Go.ChangeAt Go.RowKit Go.Shelf
open Go.Proofs.YtcoimipgilkmbaaGreatDoor.nr
open Go.Proofs.YtcoimipgilkmbaaGreatDoor.tt (Cfg Nt na nt zn bare zd fits row tyne lt_of U Tab TabK grown_refl grown_trans grown_alloc grown_setCells grown_drew grown_drewN yes Sl Next flat)
open Go.Proofs.YtcoimipgilkmbaaGreatDoor.kk (Ln St zl la ln cfind cdrop cuse cgoes cwrite cturn cput setAt setOf live fF Shp Cac Kept)
open Go.Proofs.YtcoimipgilkmbaaGreatDoor.bk (Bk rem kills puts putE fd fl Nd Rg dead fresh BkAt)
open Go.Proofs.YtcoimipgilkmbaaGreatDoor.mrk (Ms rdS wrS meets addE Dom MkAt)
open Go.Proofs.YtcoimipgilkmbaaGreatDoor.de (Dl sT gE rF aD LAt)
open Go.Proofs.YtcoimipgilkmbaaGreatDoor.oo (ref)
def fit (P:Pm) (n:Nt):Bool:=decide (n.ok∧n.t=P.core∧n.b < (P.N:Int))
theorem fit_iff {P:Pm} (h:Pok P) {n:Nt}:fit P n=true ↔ (fits P.c n∧n.t=P.core):=by
 have hd:=h.data
 have h0:=h.c0
 have h1:=h.c1
 unfold fit
 rw [decide_eq_true_iff]
 constructor
 ·rintro ⟨ho,ht,hb⟩
  have hr:=(tt.rule_ok n ho.1 ho.2.1).1 ho
  have hT:tt.tH n.k=false:=by
   cases hx:tt.tH n.k
   ·rfl
   ·have:=hr.at_
    rw [hx] at this
    simp at this
    omega
  have ha:=hr.at_
  rw [hT] at ha
  have hf:n.f=-1:=by simpa using ha
  exact ⟨⟨ho,⟨by omega,by omega⟩,by omega⟩,ht⟩
 ·rintro ⟨⟨ho,_,hb⟩,ht⟩
  exact ⟨ho,ht,by omega⟩
section
variable {w:World} {L:LL} {P:Pm} {k:Nr} (h:LN w L P k)
include h
theorem fits_any (n:Nt):Calls Tryz.prog 56 #[.pointer (some ⟨L.q,0,none⟩),.agg (na n)] w fun e w'=>e = .returned (.bool (fit P n))∧w.grownBy w' none:=by
 have hg0:w.grownBy (w.alloc (.cells (na n) 37)) none:=grown_alloc (grown_refl _ _) _
 have hb0:=heap_alloc_new w (.cells (na n) 37)
 have HG0:=qh hg0
 have HS:Hid (∀ W,(w.alloc (.cells (na n) 37)).grownBy W none→W.cell? ⟨L.q,0,none⟩=some (.int .i64 P.core)∧W.cell? ⟨L.q,1,none⟩=some (.int .i64 (P.N:Int))∧W.cell? ⟨w.heap.size,2,none⟩=some (.int .i64 n.t)∧W.cell? ⟨w.heap.size,3,none⟩=some (.int .i64 n.b)∧W.rangeAt w.heap.size 0 (nt n)):=qh fun W hg=>by
  have hl:=h.grown (grown_trans hg0 hg)
  have hr:=tt.range_of ((hg.block _ (lt_of hb0) (by simp)).trans hb0)
  exact ⟨hl.c0,hl.c1,tt.cell_at hr 2 _ rfl,tt.cell_at hr 3 _ rfl,hr⟩
 have HM:=qh (tt.nmay_any n (w.alloc (.cells (na n) 37)).drew (h.tb.k.grown (grown_trans hg0 (grown_drew (grown_refl _ _)))))
 have HC0:=qh (HS.out _ (grown_drew (grown_refl _ _)))
 obtain ⟨t,nn,HT,hagg,hsize,hld,hsz,hst⟩:=namedN
 have hld2:=hld w.heap.size 0 n
 have hfit:fit P n=(decide n.ok && (decide (n.t=P.core) && decide (n.b < (P.N:Int)))):=by
  unfold fit
  by_cases h1:n.ok <;> by_cases h2:n.t=P.core <;> by_cases h3:n.b < (P.N:Int) <;> simp [h1,h2,h3]
 rw [hfit]
 by_cases ho:n.ok
 ·have hy:yes n.ok=0:=by simp [yes,ho]
  rw [hy] at HM
  rw [decide_eq_true ho]
  by_cases ht:n.t=P.core
  ·have e1:(n.t == P.core)=true:=by simp [ht]
   rw [decide_eq_true ht]
   clear h hg0 hb0 hld hsz hst hfit ho hy ht
   go_enter Tryz.func56,Tryz.ntmps56
   go_upto_region 1 with fail
   rw [HT.out.1]
   refine wp_region_held_drew (S:=fun W=>W.cell? ⟨L.q,0,none⟩=some (.int .i64 P.core)∧W.cell? ⟨L.q,1,none⟩=some (.int .i64 (P.N:Int))∧W.cell? ⟨w.heap.size,2,none⟩=some (.int .i64 n.t)∧W.cell? ⟨w.heap.size,3,none⟩=some (.int .i64 n.b)∧W.rangeAt w.heap.size 0 (nt n)) (by kernel_rfl) HC0.out (fun hHeld=>?_)
   refine tl 0 ?_ rfl ?_ ?_ ?_
   (rotate_left;(next=>((intro w0 hSw;(try dsimp only at hSw);obtain ⟨hs0,hs1,hs2,hs3,hsr⟩:=hSw;have hl0:=hld2 _ hsr;go_simp);try (with_reducible rfl)));next=>rfl)
   try simp only [lay]
   refine rd 1 rfl fun K hK=>?_
   go_simp
   go_at_call 95;((with_reducible refine HM.out.mono ?_);rintro e w1 ⟨rfl,hg1⟩;have HG1:=qh hg1;have HC1:=qh (HS.out w1 (grown_trans (grown_drew (grown_refl _ _)) hg1));clear hg1)
   go_wp2_with fail
   refine hK.out _ _ HC1.out (fun hHeld1=>?_)
   clear hK K
   try simp only [lay]
   refine tl 2 ?_ rfl ?_ ?_ (tl 3 ?_ rfl ?_ ?_ (tl 4 ?_ rfl ?_ ?_ (tl 5 ?_ rfl ?_ ?_ (tl 6 ?_ rfl ?_ ?_ (tl 7 ?_ rfl ?_ ?_ (tl 8 ?_ rfl ?_ ?_ ?_))))))
   iterate 7 (rotate_left;(next=>(try simp only [lay]);((intro w0 hSw;(try dsimp only at hSw);obtain ⟨hs0,hs1,hs2,hs3,hsr⟩:=hSw;have hl0:=hld2 _ hsr;go_simp);try (with_reducible rfl)));next=>rfl)
   try simp only [lay]
   refine tl 9 ?_ rfl ?_ ?_ (tl 10 ?_ rfl ?_ ?_ (tl 11 ?_ rfl ?_ ?_ (tl 12 ?_ rfl ?_ ?_ (tl 13 ?_ rfl ?_ ?_ (tl 14 ?_ rfl ?_ ?_ (tl 15 ?_ rfl ?_ ?_ ?_))))))
   iterate 7 (rotate_left;(next=>(try simp only [lay]);((intro w0 hSw;(try dsimp only at hSw);obtain ⟨hs0,hs1,hs2,hs3,hsr⟩:=hSw;have hl0:=hld2 _ hsr;go_simp);try (with_reducible rfl)));next=>rfl)
   try simp only [lay]
   refine tl 16 ?_ rfl ?_ ?_ (tl 17 ?_ rfl ?_ ?_ (tl 18 ?_ rfl ?_ ?_ (tl 19 ?_ rfl ?_ ?_ (tl 20 ?_ rfl ?_ ?_ (tl 21 ?_ rfl ?_ ?_ ?_)))))
   iterate 6 (rotate_left;(next=>(try simp only [lay]);((intro w0 hSw;(try dsimp only at hSw);obtain ⟨hs0,hs1,hs2,hs3,hsr⟩:=hSw;have hl0:=hld2 _ hsr;go_simp);try (with_reducible rfl)));next=>rfl)
   try simp only [lay]
   refine wpAnyH_done (by kernel_rfl) ?_ _
   go_wp2_with fail
   go_ret
   exact ⟨by simp,grown_trans HG0.out (grown_trans (grown_drew (grown_refl _ _)) HG1.out)⟩
  ·have e1:(n.t == P.core)=false:=by simp [ht]
   rw [decide_eq_false ht]
   clear h hg0 hb0 hld hsz hst hfit ho hy ht
   go_enter Tryz.func56,Tryz.ntmps56
   go_upto_region 1 with fail
   rw [HT.out.1]
   refine wp_region_held_drew (S:=fun W=>W.cell? ⟨L.q,0,none⟩=some (.int .i64 P.core)∧W.cell? ⟨L.q,1,none⟩=some (.int .i64 (P.N:Int))∧W.cell? ⟨w.heap.size,2,none⟩=some (.int .i64 n.t)∧W.cell? ⟨w.heap.size,3,none⟩=some (.int .i64 n.b)∧W.rangeAt w.heap.size 0 (nt n)) (by kernel_rfl) HC0.out (fun hHeld=>?_)
   refine tl 0 ?_ rfl ?_ ?_ ?_
   (rotate_left;(next=>((intro w0 hSw;(try dsimp only at hSw);obtain ⟨hs0,hs1,hs2,hs3,hsr⟩:=hSw;have hl0:=hld2 _ hsr;go_simp);try (with_reducible rfl)));next=>rfl)
   try simp only [lay]
   refine rd 1 rfl fun K hK=>?_
   go_simp
   go_at_call 95;((with_reducible refine HM.out.mono ?_);rintro e w1 ⟨rfl,hg1⟩;have HG1:=qh hg1;have HC1:=qh (HS.out w1 (grown_trans (grown_drew (grown_refl _ _)) hg1));clear hg1)
   go_wp2_with fail
   refine hK.out _ _ HC1.out (fun hHeld1=>?_)
   clear hK K
   try simp only [lay]
   refine tl 2 ?_ rfl ?_ ?_ (tl 3 ?_ rfl ?_ ?_ (tl 4 ?_ rfl ?_ ?_ (tl 5 ?_ rfl ?_ ?_ (tl 6 ?_ rfl ?_ ?_ (tl 7 ?_ rfl ?_ ?_ ?_)))))
   iterate 6 (rotate_left;(next=>(try simp only [lay]);((intro w0 hSw;(try dsimp only at hSw);obtain ⟨hs0,hs1,hs2,hs3,hsr⟩:=hSw;have hl0:=hld2 _ hsr;go_simp);try (with_reducible rfl)));next=>rfl)
   try simp only [lay]
   refine tl 8 ?_ rfl ?_ ?_ (tl 9 ?_ rfl ?_ ?_ (tl 10 ?_ rfl ?_ ?_ (tl 11 ?_ rfl ?_ ?_ (tl 12 ?_ rfl ?_ ?_ ?_))))
   iterate 5 (rotate_left;(next=>(try simp only [lay]);((intro w0 hSw;(try dsimp only at hSw);obtain ⟨hs0,hs1,hs2,hs3,hsr⟩:=hSw;have hl0:=hld2 _ hsr;go_simp);try (with_reducible rfl)));next=>rfl)
   try simp only [lay]
   refine tu 13 rfl ?_
   try simp only [lay]
   refine tu 14 rfl ?_
   try simp only [lay]
   refine tu 15 rfl ?_
   try simp only [lay]
   refine tu 16 rfl ?_
   try simp only [lay]
   refine tu 17 rfl ?_
   try simp only [lay]
   refine tu 18 rfl ?_
   try simp only [lay]
   refine tu 19 rfl ?_
   try simp only [lay]
   refine tl 20 ?_ rfl ?_ ?_ (tl 21 ?_ rfl ?_ ?_ ?_)
   iterate 2 (rotate_left;(next=>(try simp only [lay]);((intro w0 hSw;(try dsimp only at hSw);obtain ⟨hs0,hs1,hs2,hs3,hsr⟩:=hSw;have hl0:=hld2 _ hsr;go_simp);try (with_reducible rfl)));next=>rfl)
   try simp only [lay]
   refine wpAnyH_done (by kernel_rfl) ?_ _
   go_wp2_with fail
   go_ret
   exact ⟨by simp,grown_trans HG0.out (grown_trans (grown_drew (grown_refl _ _)) HG1.out)⟩
 ·have hy:yes n.ok=2:=by simp [yes,ho]
  rw [hy] at HM
  rw [decide_eq_false ho]
  clear h hg0 hb0 hld hsz hst hfit ho hy
  go_enter Tryz.func56,Tryz.ntmps56
  go_upto_region 1 with fail
  rw [HT.out.1]
  refine wp_region_held_drew (S:=fun W=>W.cell? ⟨L.q,0,none⟩=some (.int .i64 P.core)∧W.cell? ⟨L.q,1,none⟩=some (.int .i64 (P.N:Int))∧W.cell? ⟨w.heap.size,2,none⟩=some (.int .i64 n.t)∧W.cell? ⟨w.heap.size,3,none⟩=some (.int .i64 n.b)∧W.rangeAt w.heap.size 0 (nt n)) (by kernel_rfl) HC0.out (fun hHeld=>?_)
  refine tl 0 ?_ rfl ?_ ?_ ?_
  (rotate_left;(next=>((intro w0 hSw;(try dsimp only at hSw);obtain ⟨hs0,hs1,hs2,hs3,hsr⟩:=hSw;have hl0:=hld2 _ hsr;go_simp);try (with_reducible rfl)));next=>rfl)
  try simp only [lay]
  refine rd 1 rfl fun K hK=>?_
  go_simp
  go_at_call 95;((with_reducible refine HM.out.mono ?_);rintro e w1 ⟨rfl,hg1⟩;have HG1:=qh hg1;have HC1:=qh (HS.out w1 (grown_trans (grown_drew (grown_refl _ _)) hg1));clear hg1)
  go_wp2_with fail
  refine hK.out _ _ HC1.out (fun hHeld1=>?_)
  clear hK K
  try simp only [lay]
  refine tl 2 ?_ rfl ?_ ?_ (tl 3 ?_ rfl ?_ ?_ ?_)
  iterate 2 (rotate_left;(next=>(try simp only [lay]);((intro w0 hSw;(try dsimp only at hSw);obtain ⟨hs0,hs1,hs2,hs3,hsr⟩:=hSw;have hl0:=hld2 _ hsr;go_simp);try (with_reducible rfl)));next=>rfl)
  try simp only [lay]
  refine tu 4 rfl ?_
  try simp only [lay]
  refine tu 5 rfl ?_
  try simp only [lay]
  refine tu 6 rfl ?_
  try simp only [lay]
  refine tu 7 rfl ?_
  try simp only [lay]
  refine tu 8 rfl ?_
  try simp only [lay]
  refine tu 9 rfl ?_
  try simp only [lay]
  refine tu 10 rfl ?_
  try simp only [lay]
  refine tl 11 ?_ rfl ?_ ?_ (tl 12 ?_ rfl ?_ ?_ ?_)
  iterate 2 (rotate_left;(next=>(try simp only [lay]);((intro w0 hSw;(try dsimp only at hSw);obtain ⟨hs0,hs1,hs2,hs3,hsr⟩:=hSw;have hl0:=hld2 _ hsr;go_simp);try (with_reducible rfl)));next=>rfl)
  try simp only [lay]
  refine tu 13 rfl ?_
  try simp only [lay]
  refine tu 14 rfl ?_
  try simp only [lay]
  refine tu 15 rfl ?_
  try simp only [lay]
  refine tu 16 rfl ?_
  try simp only [lay]
  refine tu 17 rfl ?_
  try simp only [lay]
  refine tu 18 rfl ?_
  try simp only [lay]
  refine tu 19 rfl ?_
  try simp only [lay]
  refine tl 20 ?_ rfl ?_ ?_ (tl 21 ?_ rfl ?_ ?_ ?_)
  iterate 2 (rotate_left;(next=>(try simp only [lay]);((intro w0 hSw;(try dsimp only at hSw);obtain ⟨hs0,hs1,hs2,hs3,hsr⟩:=hSw;have hl0:=hld2 _ hsr;go_simp);try (with_reducible rfl)));next=>rfl)
  try simp only [lay]
  refine wpAnyH_done (by kernel_rfl) ?_ _
  go_wp2_with fail
  go_ret
  exact ⟨by simp,grown_trans HG0.out (grown_trans (grown_drew (grown_refl _ _)) HG1.out)⟩
end
end Go.Proofs.YtcoimipgilkmbaaGreatDoor.nl
