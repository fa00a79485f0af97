/-
 What fits of a net answers, and the document's Fits: contracts. Condition: the tables of bounds and of kinds lie in their variables as the program's text has them.
-/
import Derived.Test.YtcoimipgilkmbaaGreatDoorTl
import Derived.Test.YtcoimipgilkmbaaGreatDoorFi
import Derived.Test.YtcoimipgilkmbaaGreatDoorNa6
import Derived.Test.YtcoimipgilkmbaaGreatDoorPr
namespace Go.Proofs.YtcoimipgilkmbaaGreatDoor.tt
set_option linter.unusedVariables false
set_option linter.unusedSimpArgs false
set_option maxRecDepth 1000000
set_option maxHeartbeats 16000000
open Go Go.ChangeShapes Go.WideShapes Go.ChangeAt Go.RowKit
theorem rfits_any (c:Cfg) (n:Nt) (w:World) (hmay:c.may):Calls Tryz.prog 115 #[.agg c.cells,.agg (na n)] w fun e w'=>e = .returned (.bool (decide (fits c n)))∧w.grownBy w' none:=by
 obtain ⟨w1,hw1⟩:∃ w1,(w.alloc (.cells c.cells 27)).alloc (.cells (na n) 37)=w1:=⟨_,rfl⟩
 have hg:w.grownBy w1 none:=by rw [← hw1];exact grown_alloc (grown_alloc (grown_refl _ _) _) _
 have hbx:w1.heap[w.heap.size + 1]?=some (.cells (na n) 37 (0,0)):=by
  have:=heap_alloc_new (w.alloc (.cells c.cells 27)) (.cells (na n) 37)
  rwa [World.size_alloc,hw1] at this
 have hcb:CfgAt w1 w.heap.size c:=by rw [← hw1];exact (cfg_at w c).grown (grown_alloc (grown_refl _ _) _)
 have HR:Hid (∀ w',w1.grownBy w' none→w'.rangeAt (w.heap.size + 1) 0 (nt n)):=qh fun w' h=>range_grown (range_of hbx) h (by simp)
 obtain ⟨t',mm,HTT,hagg,hsize,hld⟩:=named
 have HX:Hid (∀ w',w1.grownBy w' none→(loadCellsFrom ⟨w.heap.size + 1,0,none⟩ 0 mm #[]).run Tryz.prog w' = .ok (na n) w'):=qh fun w' h=>hld _ _ _ (HR.out w' h)
 have H1:Hid (∀ w',w1.grownBy w' none→w'.cell? ⟨w.heap.size + 1,1,none⟩=some (.int .i64 n.f)):=qh fun w' h=>cell_at (HR.out w' h) 1 _ rfl
 have H2:Hid (∀ w',w1.grownBy w' none→w'.cell? ⟨w.heap.size + 1,2,none⟩=some (.int .i64 n.t)):=qh fun w' h=>cell_at (HR.out w' h) 2 _ rfl
 have H3:Hid (∀ w',w1.grownBy w' none→w'.cell? ⟨w.heap.size + 1,3,none⟩=some (.int .i64 n.b)):=qh fun w' h=>cell_at (HR.out w' h) 3 _ rfl
 have N0:Hid (∀ w',w1.grownBy w' none→w'.cell? ⟨w.heap.size,0,none⟩=some (.int .i64 c.co)):=qh fun w' h=>(hcb.grown h).c0
 have NC:Hid (∀ w',w1.grownBy w' none→w'.cell? ⟨w.heap.size,0,none⟩=some (.int .i64 c.co)∧w'.cell? ⟨w.heap.size,1,none⟩=some (.int .i64 c.se)∧w'.cell? ⟨w.heap.size,2,none⟩=some (.int .i64 c.wa)∧w'.cell? ⟨w.heap.size,3,none⟩=some (.int .i64 c.bl)∧w'.cell? ⟨w.heap.size,4,none⟩=some (.int .i64 c.lo)∧w'.cell? ⟨w.heap.size,5,none⟩=some (.int .i64 c.ba)∧w'.cell? ⟨w.heap.size,6,none⟩=some (.int .i64 c.ne)∧w'.cell? ⟨w.heap.size,7,none⟩=some (.int .i64 c.tr)):=qh fun w' h=>(hcb.grown h).limbs
 have HM:Hid (∀ w',w1.grownBy w' none→_):=qh fun w' h=>rnmay_any n w'
 have HD:Hid (∀ w',w1.grownBy w' none→_):=qh fun w' h=>rdata_any c w' hmay.fits
 unfold Cfg.cells at HD hw1
 have HG:=qh hg
 have hfit:decide (fits c n)=(decide n.ok && (decide (n.f < c.co) && (decide (n.t < c.co) && decide (n.b < c.data)))):=by
  by_cases a:n.ok <;> by_cases b:n.f < c.co <;> by_cases d:n.t < c.co <;> by_cases e:n.b < c.data <;> simp [fits,a,b,d,e]
 rw [hfit]
 obtain ⟨dat,hdat⟩:∃ d,d=c.data:=⟨_,rfl⟩
 rw [← hdat] at HD ⊢
 clear hg hbx hcb hld hfit hdat hmay
 unfold Cfg.cells
 by_cases ho:n.ok
 ·rw [decide_eq_true ho] at HM ⊢
  rw [Bool.true_and]
  clear ho
  by_cases hf:n.f < c.co
  ·have hm1:decide (n.f < c.co)=true:=decide_eq_true hf
   rw [hm1,Bool.true_and]
   clear hf
   by_cases ht:n.t < c.co
   ·have hm2:decide (n.t < c.co)=true:=decide_eq_true ht
    rw [hm2,Bool.true_and]
    clear ht
    go_enter Tryz.func115,Tryz.ntmps115
    go_wp2_with fail
    rw [HTT.out]
    refine wp_region_held_drew (S:=fun w'=>w1.grownBy w' none) (by kernel_rfl) (grown_drew (grown_refl _ _)) (fun hHeld=>?_)
    refine tl 0 ?_ rfl ?_ ?_ ?_
    (rotate_left;(next=>((intro w0 hSw;have h1:=HX.out w0 hSw;go_simp);try (with_reducible rfl)));next=>rfl)
    try simp only [lay]
    refine rd 1 rfl fun K hK=>?_
    go_simp
    (with_reducible refine (HM.out _ hHeld).mono ?_);rintro e w9 ⟨rfl,hg9⟩
    go_wp2_with fail
    refine hK.out _ _ (grown_trans hHeld hg9) (fun hHeld=>?_)
    clear hK K
    try simp only [lay]
    refine tl 2 ?_ rfl ?_ ?_ (tl 3 ?_ rfl ?_ ?_ (tl 4 ?_ rfl ?_ ?_ (tl 5 ?_ rfl ?_ ?_ ?_)))
    iterate 4 (rotate_left;(next=>(try simp only [lay]);((intro w0 hSw;have h1:=H1.out w0 hSw;go_simp);try (with_reducible rfl)));next=>rfl)
    try simp only [lay]
    refine tl 6 ?_ rfl ?_ ?_ (tl 7 ?_ rfl ?_ ?_ (tl 8 ?_ rfl ?_ ?_ (tl 9 ?_ rfl ?_ ?_ (tl 10 ?_ rfl ?_ ?_ ?_))))
    iterate 5 (rotate_left;(next=>(try simp only [lay]);((intro w0 hSw;have h1:=N0.out w0 hSw;go_simp);try (with_reducible rfl)));next=>rfl)
    try simp only [lay]
    refine tl 11 ?_ rfl ?_ ?_ (tl 12 ?_ rfl ?_ ?_ ?_)
    iterate 2 (rotate_left;(next=>(try simp only [lay]);((intro w0 hSw;have h1:=H2.out w0 hSw;go_simp);try (with_reducible rfl)));next=>rfl)
    try simp only [lay]
    refine tl 13 ?_ rfl ?_ ?_ (tl 14 ?_ rfl ?_ ?_ (tl 15 ?_ rfl ?_ ?_ (tl 16 ?_ rfl ?_ ?_ (tl 17 ?_ rfl ?_ ?_ ?_))))
    iterate 5 (rotate_left;(next=>(try simp only [lay]);((intro w0 hSw;have h1:=N0.out w0 hSw;go_simp);try (with_reducible rfl)));next=>rfl)
    try simp only [lay]
    refine tl 18 ?_ rfl ?_ ?_ ?_
    (rotate_left;(next=>((intro w0 hSw;have h1:=H3.out w0 hSw;go_simp);try (with_reducible rfl)));next=>rfl)
    try simp only [lay]
    refine tl 19 ?_ rfl ?_ ?_ ?_
    (rotate_left;(next=>((intro w0 hSw;obtain ⟨d0,d1,d2,d3,d4,d5,d6,d7⟩:=NC.out w0 hSw;go_simp);try (with_reducible rfl)));next=>rfl)
    try simp only [lay]
    refine rd 20 rfl fun K hK=>?_
    go_simp
    (with_reducible refine (HD.out _ hHeld).mono ?_);rintro e w8 ⟨rfl,hg8⟩
    go_wp2_with fail
    refine hK.out _ _ (grown_trans hHeld hg8) (fun hHeld=>?_)
    clear hK K
    try simp only [lay]
    refine tl 21 ?_ rfl ?_ ?_ (tl 22 ?_ rfl ?_ ?_ (tl 23 ?_ rfl ?_ ?_ ?_))
    iterate 3 (rotate_left;(next=>(try simp only [lay]);((intro w0 hSw;go_simp);try (with_reducible rfl)));next=>rfl)
    try simp only [lay]
    refine wpAnyH_done (by kernel_rfl) ?_ _
    go_wp2
    go_ret
    exact ⟨rfl,grown_trans HG.out (by assumption)⟩
   ·have hm2:decide (n.t < c.co)=false:=decide_eq_false ht
    rw [hm2,Bool.false_and]
    clear ht
    go_enter Tryz.func115,Tryz.ntmps115
    go_wp2_with fail
    rw [HTT.out]
    refine wp_region_held_drew (S:=fun w'=>w1.grownBy w' none) (by kernel_rfl) (grown_drew (grown_refl _ _)) (fun hHeld=>?_)
    refine tl 0 ?_ rfl ?_ ?_ ?_
    (rotate_left;(next=>((intro w0 hSw;have h1:=HX.out w0 hSw;go_simp);try (with_reducible rfl)));next=>rfl)
    try simp only [lay]
    refine rd 1 rfl fun K hK=>?_
    go_simp
    (with_reducible refine (HM.out _ hHeld).mono ?_);rintro e w9 ⟨rfl,hg9⟩
    go_wp2_with fail
    refine hK.out _ _ (grown_trans hHeld hg9) (fun hHeld=>?_)
    clear hK K
    try simp only [lay]
    refine tl 2 ?_ rfl ?_ ?_ (tl 3 ?_ rfl ?_ ?_ (tl 4 ?_ rfl ?_ ?_ (tl 5 ?_ rfl ?_ ?_ ?_)))
    iterate 4 (rotate_left;(next=>(try simp only [lay]);((intro w0 hSw;have h1:=H1.out w0 hSw;go_simp);try (with_reducible rfl)));next=>rfl)
    try simp only [lay]
    refine tl 6 ?_ rfl ?_ ?_ (tl 7 ?_ rfl ?_ ?_ (tl 8 ?_ rfl ?_ ?_ (tl 9 ?_ rfl ?_ ?_ (tl 10 ?_ rfl ?_ ?_ ?_))))
    iterate 5 (rotate_left;(next=>(try simp only [lay]);((intro w0 hSw;have h1:=N0.out w0 hSw;go_simp);try (with_reducible rfl)));next=>rfl)
    try simp only [lay]
    refine tl 11 ?_ rfl ?_ ?_ (tl 12 ?_ rfl ?_ ?_ ?_)
    iterate 2 (rotate_left;(next=>(try simp only [lay]);((intro w0 hSw;have h1:=H2.out w0 hSw;go_simp);try (with_reducible rfl)));next=>rfl)
    try simp only [lay]
    refine tl 13 ?_ rfl ?_ ?_ (tl 14 ?_ rfl ?_ ?_ (tl 15 ?_ rfl ?_ ?_ (tl 16 ?_ rfl ?_ ?_ ?_)))
    iterate 4 (rotate_left;(next=>(try simp only [lay]);((intro w0 hSw;have h1:=N0.out w0 hSw;go_simp);try (with_reducible rfl)));next=>rfl)
    try simp only [lay]
    refine tu 17 rfl ?_
    try simp only [lay]
    refine tu 18 rfl ?_
    try simp only [lay]
    refine tu 19 rfl ?_
    try simp only [lay]
    refine tu 20 rfl ?_
    try simp only [lay]
    refine tu 21 rfl ?_
    try simp only [lay]
    refine tl 22 ?_ rfl ?_ ?_ (tl 23 ?_ rfl ?_ ?_ ?_)
    iterate 2 (rotate_left;(next=>(try simp only [lay]);((intro w0 hSw;go_simp);try (with_reducible rfl)));next=>rfl)
    try simp only [lay]
    refine wpAnyH_done (by kernel_rfl) ?_ _
    go_wp2
    go_ret
    exact ⟨rfl,grown_trans HG.out (by assumption)⟩
  ·have hm1:decide (n.f < c.co)=false:=decide_eq_false hf
   rw [hm1,Bool.false_and]
   clear hf
   go_enter Tryz.func115,Tryz.ntmps115
   go_wp2_with fail
   rw [HTT.out]
   refine wp_region_held_drew (S:=fun w'=>w1.grownBy w' none) (by kernel_rfl) (grown_drew (grown_refl _ _)) (fun hHeld=>?_)
   refine tl 0 ?_ rfl ?_ ?_ ?_
   (rotate_left;(next=>((intro w0 hSw;have h1:=HX.out w0 hSw;go_simp);try (with_reducible rfl)));next=>rfl)
   try simp only [lay]
   refine rd 1 rfl fun K hK=>?_
   go_simp
   (with_reducible refine (HM.out _ hHeld).mono ?_);rintro e w9 ⟨rfl,hg9⟩
   go_wp2_with fail
   refine hK.out _ _ (grown_trans hHeld hg9) (fun hHeld=>?_)
   clear hK K
   try simp only [lay]
   refine tl 2 ?_ rfl ?_ ?_ (tl 3 ?_ rfl ?_ ?_ (tl 4 ?_ rfl ?_ ?_ (tl 5 ?_ rfl ?_ ?_ ?_)))
   iterate 4 (rotate_left;(next=>(try simp only [lay]);((intro w0 hSw;have h1:=H1.out w0 hSw;go_simp);try (with_reducible rfl)));next=>rfl)
   try simp only [lay]
   refine tl 6 ?_ rfl ?_ ?_ (tl 7 ?_ rfl ?_ ?_ (tl 8 ?_ rfl ?_ ?_ (tl 9 ?_ rfl ?_ ?_ ?_)))
   iterate 4 (rotate_left;(next=>(try simp only [lay]);((intro w0 hSw;have h1:=N0.out w0 hSw;go_simp);try (with_reducible rfl)));next=>rfl)
   try simp only [lay]
   refine tu 10 rfl ?_
   try simp only [lay]
   refine tu 11 rfl ?_
   try simp only [lay]
   refine tu 12 rfl ?_
   try simp only [lay]
   refine tu 13 rfl ?_
   try simp only [lay]
   refine tu 14 rfl ?_
   try simp only [lay]
   refine tl 15 ?_ rfl ?_ ?_ (tl 16 ?_ rfl ?_ ?_ ?_)
   iterate 2 (rotate_left;(next=>(try simp only [lay]);((intro w0 hSw;go_simp);try (with_reducible rfl)));next=>rfl)
   try simp only [lay]
   refine tu 17 rfl ?_
   try simp only [lay]
   refine tu 18 rfl ?_
   try simp only [lay]
   refine tu 19 rfl ?_
   try simp only [lay]
   refine tu 20 rfl ?_
   try simp only [lay]
   refine tu 21 rfl ?_
   try simp only [lay]
   refine tl 22 ?_ rfl ?_ ?_ (tl 23 ?_ rfl ?_ ?_ ?_)
   iterate 2 (rotate_left;(next=>(try simp only [lay]);((intro w0 hSw;go_simp);try (with_reducible rfl)));next=>rfl)
   try simp only [lay]
   refine wpAnyH_done (by kernel_rfl) ?_ _
   go_wp2
   go_ret
   exact ⟨rfl,grown_trans HG.out (by assumption)⟩
 ·rw [decide_eq_false ho] at HM ⊢
  rw [Bool.false_and]
  clear ho
  go_enter Tryz.func115,Tryz.ntmps115
  go_wp2_with fail
  rw [HTT.out]
  refine wp_region_held_drew (S:=fun w'=>w1.grownBy w' none) (by kernel_rfl) (grown_drew (grown_refl _ _)) (fun hHeld=>?_)
  refine tl 0 ?_ rfl ?_ ?_ ?_
  (rotate_left;(next=>((intro w0 hSw;have h1:=HX.out w0 hSw;go_simp);try (with_reducible rfl)));next=>rfl)
  try simp only [lay]
  refine rd 1 rfl fun K hK=>?_
  go_simp
  (with_reducible refine (HM.out _ hHeld).mono ?_);rintro e w9 ⟨rfl,hg9⟩
  go_wp2_with fail
  refine hK.out _ _ (grown_trans hHeld hg9) (fun hHeld=>?_)
  clear hK K
  try simp only [lay]
  refine tl 2 ?_ rfl ?_ ?_ ?_
  (rotate_left;(next=>((intro w0 hSw;go_simp);try (with_reducible rfl)));next=>rfl)
  try simp only [lay]
  refine tu 3 rfl ?_
  try simp only [lay]
  refine tu 4 rfl ?_
  try simp only [lay]
  refine tu 5 rfl ?_
  try simp only [lay]
  refine tu 6 rfl ?_
  try simp only [lay]
  refine tu 7 rfl ?_
  try simp only [lay]
  refine tl 8 ?_ rfl ?_ ?_ (tl 9 ?_ rfl ?_ ?_ ?_)
  iterate 2 (rotate_left;(next=>(try simp only [lay]);((intro w0 hSw;go_simp);try (with_reducible rfl)));next=>rfl)
  try simp only [lay]
  refine tu 10 rfl ?_
  try simp only [lay]
  refine tu 11 rfl ?_
  try simp only [lay]
  refine tu 12 rfl ?_
  try simp only [lay]
  refine tu 13 rfl ?_
  try simp only [lay]
  refine tu 14 rfl ?_
  try simp only [lay]
  refine tl 15 ?_ rfl ?_ ?_ (tl 16 ?_ rfl ?_ ?_ ?_)
  iterate 2 (rotate_left;(next=>(try simp only [lay]);((intro w0 hSw;go_simp);try (with_reducible rfl)));next=>rfl)
  try simp only [lay]
  refine tu 17 rfl ?_
  try simp only [lay]
  refine tu 18 rfl ?_
  try simp only [lay]
  refine tu 19 rfl ?_
  try simp only [lay]
  refine tu 20 rfl ?_
  try simp only [lay]
  refine tu 21 rfl ?_
  try simp only [lay]
  refine tl 22 ?_ rfl ?_ ?_ (tl 23 ?_ rfl ?_ ?_ ?_)
  iterate 2 (rotate_left;(next=>(try simp only [lay]);((intro w0 hSw;go_simp);try (with_reducible rfl)));next=>rfl)
  try simp only [lay]
  refine wpAnyH_done (by kernel_rfl) ?_ _
  go_wp2
  go_ret
  exact ⟨rfl,grown_trans HG.out (by assumption)⟩
end Go.Proofs.YtcoimipgilkmbaaGreatDoor.tt
