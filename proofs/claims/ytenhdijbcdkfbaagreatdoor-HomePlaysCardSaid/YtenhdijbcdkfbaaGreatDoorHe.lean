/-
 What begin of a home makes of an ask for which somebody must be asked: contract. Condition: the table of de Bruijn's product lies in its variable.
 The loop in which those that wait about a block begin: its state, the marks of the loops in it, how it is left. No condition.
 A round of the loop in which those that wait about a block begin: what it makes of the loop's state; begin, whatever begins. Condition: the table of de Bruijn's product lies in its variable.
 What end of a home makes of it: those that wait about a block begin, until one of it is under way: contract. Condition: the table of de Bruijn's product lies in its variable.
-/
import Derived.Test.YtenhdijbcdkfbaaGreatDoorTl
import Derived.Test.YtenhdijbcdkfbaaGreatDoorHd
import Derived.Test.YtenhdijbcdkfbaaGreatDoorPh
import Derived.Test.YtenhdijbcdkfbaaGreatDoorHo
import Derived.Shelf.RegionOpen
namespace Go.Proofs.YtenhdijbcdkfbaaGreatDoor.hh
set_option linter.unusedVariables false
set_option linter.unusedSimpArgs false
set_option maxRecDepth 1000000
set_option maxHeartbeats 16000000
open Go Go.ChangeShapes Go.WideShapes Go.ChangeAt Go.RowKit
open Go.Proofs.YtenhdijbcdkfbaaGreatDoor.tt (Nt Cfg fits net bare zd usd uses coreOf ok_ends MapAt mput mdel ik NPool NSl Turn flat na nt zn grown_alloc grown_refl grown_trans tyne lt_of)
open Go.Proofs.YtenhdijbcdkfbaaGreatDoor.en (En gets back asked asks free ask_parts may_parts ea)
open Go.Proofs.YtenhdijbcdkfbaaGreatDoor.mm (wi wo ones wo_lt)
theorem pop_le (m:Nat):∀ k,mm.pop m k ≤ k
 | 0=>Nat.le_refl _
 | k + 1=>by
  have h1:=pop_le m k
  have h2:=Bool.toNat_le (m.testBit k)
  show mm.pop m k + (m.testBit k).toNat ≤ k + 1
  omega
attribute [local go_sem] Oper.semAt_some
section
variable {w:World} {h:Nat} {c:Cfg} {F:Ft} {H:Hm}
theorem begin_ask (A:HomeAt w h c F H) (n:Nt) (hn:Asks c n) (hT:mm.Tab w) (h3:n.k ≠ 3) (hw:(asked (enOf H n.b.toNat) n.k n.f).1 ≠ 0):Calls Tryz.prog 47 #[.pointer (some ⟨h,0,none⟩),.agg (na n)] w fun e w'=>∃ v,e = .returned v ∧
  HomeAt w' h c F (begin1 H n).1∧NSl w' v (begin1 H n).2∧Did w w' F F∧∀ k,v.ownBlock=some k→w.heap.size ≤ k:=by
 have hk:n.k=1 ∨ n.k=2:=by rcases asks_kind hn with e | e | e <;> omega
 obtain ⟨hb0,hb⟩:=blk_lt hn.fits
 obtain ⟨b,hbn⟩:∃ b:Nat,n.b=(b:Int):=⟨n.b.toNat,by omega⟩
 have HBT:Hid (n.b.toNat=b):=qh (by omega)
 rw [HBT.out] at hb
 rw [HBT.out] at hw
 obtain ⟨wb,hwb⟩:∃ wb,w.alloc (.cells (na n) 45)=wb:=⟨_,rfl⟩
 have hgb:w.grownBy wb none:=by rw [← hwb];exact grown_alloc (grown_refl _ _) _
 have HA:Hid (∀ w',wb.grownBy w' none→HomeAt w' h c F H):=qh fun w' h'=>A.grown (grown_trans hgb h')
 have hbx:wb.heap[w.heap.size]?=some (.cells (na n) 45 (0,0)):=by rw [← hwb];exact heap_alloc_new _ _
 have HR:Hid (∀ w':World,w'.heap[w.heap.size]?=some (.cells (na n) 45 (0,0))→w'.rangeAt w.heap.size 0 (nt n)):=qh fun w' h'=>tt.range_of h'
 have HBX:=qh hbx
 have HG:=qh hgb
 have k0:wb.cell? ⟨w.heap.size,0,none⟩=some (.int .u8 n.k):=tt.cell_at (HR.out _ hbx) 0 _ rfl
 have e3:(n.k == 3)=false:=by simpa using h3
 have hbl:b < H.en.length:=by rw [A.inv.le];exact hb
 have hbj:b < H.jb.length:=by rw [A.inv.lj];exact hb
 have hes:(enOf H b).s < 4294967296:=by
  have:=(may_parts (o:=(enOf H b).o) (s:=(enOf H b).s) (ents_of A.inv b)).2.2.1;omega
 have HQ:Hid (∀ w',wb.grownBy w' none→_):=qh fun w' h'=>en.asked_any (enOf H b).o (enOf H b).s n.k n.f w' hes (mtab_grown hT (grown_trans hgb h'))
 have HGE:Hid (asked ⟨(enOf H b).o,(enOf H b).s⟩ n.k n.f=asked (enOf H b) n.k n.f):=qh rfl
 unfold en.told at HQ
 rw [HGE.out] at HQ
 obtain ⟨g,off,cap,hev,_⟩:=A.entCells hbl
 have HK:Hid (∀ w',wb.grownBy w' none→(w'.cell? ⟨h,2,none⟩=some (.slice (some ⟨g,off,none⟩) H.en.length cap))∧(w'.cell? ⟨g,off + b * 2,none⟩=some (.int .i64 (enOf H b).o)∧w'.cell? ⟨g,off + b * 2 + 1,none⟩=some (.int .u32 ((enOf H b).s:Int)))∧(w'.cell? ⟨w.heap.size,0,none⟩=some (.int .u8 n.k)∧w'.cell? ⟨w.heap.size,1,none⟩=some (.int .i64 n.f)∧w'.cell? ⟨w.heap.size,3,none⟩=some (.int .i64 (b:Int)))):=qh fun w' h'=>by
  have hA:=HA.out w' h'
  obtain ⟨g',off',cap',hev',e0,e1,_⟩:=hA.entCells hbl
  rw [hev] at hev';cases hev'
  have hr:=HR.out w' ((h'.block _ (lt_of hbx) (by simp)).trans hbx)
  exact ⟨hev ▸ hA.cells.2.2.1,⟨e0,e1⟩,⟨tt.cell_at hr 0 _ rfl,tt.cell_at hr 1 _ rfl,by rw [← hbn];exact tt.cell_at hr 3 _ rfl⟩⟩
 have HNB:=qh hbn
 have hlt:(b:Int) < (H.en.length:Int):=by omega
 have hle:(0:Int) ≤ (b:Int):=by omega
 obtain ⟨q,hq⟩:∃ q,q=H.en.length:=⟨_,rfl⟩
 rw [← hq] at hlt HK
 have hml:=asked_lt (k:=n.k) (x:=n.f) (ents_of A.inv b)
 have hj:∀ m,m < 4294967296→JobOk c b ⟨n,m,false,false,0⟩:=fun m hm=>⟨hn,hk,by show n.b=(b:Int);omega,hm,⟨Int.le_refl _,(show (0:Int) < 18446744073709551616 by decide)⟩⟩
 have HIJ:Hid (Inv c { H with jb:=H.jb.set b (some ⟨n,(asked (enOf H b) n.k n.f).1,false,false,0⟩) }):=qh (A.inv.job b _ fun j e=>by cases e;exact hj _ hml)
 have HOJ:Hid (∀ (b':Nat) (j':Jb),(H.jb.set b (some ⟨n,(asked (enOf H b) n.k n.f).1,false,false,0⟩))[b']?=some (some j')→j'.d=decide (j'.w=0)):=qh (ok_set A.ok b _ (by simp [hw]))
 have HBJ:=qh hbj
 have HCN:Hid (∀ w,_):=qh fun w=>mm.count_any (asked (enOf H b) n.k n.f).1 w hml
 have HB1:Hid (begin1 H n=({ H with jb:=H.jb.set b (some ⟨n,(asked (enOf H b) n.k n.f).1,false,false,0⟩) },(ones (asked (enOf H b) n.k n.f).1).map fun (x:Nat)=>bare (asked (enOf H b) n.k n.f).2.1 (-1) (x:Int) n.b n.st 0 false false)):=qh (by
  unfold begin1
  rw [if_neg h3,HBT.out,if_neg hw])
 have HML:=qh hml
 have HPL:Hid (mm.pop (asked (enOf H b) n.k n.f).1 32 ≤ 32):=qh (pop_le _ _)
 have HTT:=qh hT
 have HAL:Hid (2 < w.heap.size):=qh hT.lt
 have HOL:Hid (∀ i,F.own i→i < w.heap.size):=qh fun i hi=>A.own_lt hi
 have HOH:=qh A.h_own
 have hm0:(((asked (enOf H b) n.k n.f).1:Int) == 0)=false:=by simp;omega
 rw [HB1.out]
 clear HB1
 clear A hbx hgb hb hbl hbj hes hev hq hbn hn hk h3 hT hml hj hb0 hw
 generalize asked (enOf H b) n.k n.f=r at *
 obtain ⟨m,by1,re⟩:=r
 generalize enOf H b=eb at *
 obtain ⟨eo,es⟩:=eb
 dsimp only at *
 clear HBT
 refine (callsIn_wide (n:=9)).1 ?_
 refine callsIn_of_wp_marks Tryz.func47 rfl trivial ?_ rfl
 simp only [Tryz.ntmps47,List.size_toArray,List.length_cons,List.length_nil,Nat.reduceAdd,Nat.reduceSub,Array.replicate_succ,Array.replicate_zero,List.push_toArray,List.append_toArray,List.nil_append,List.cons_append]
 refine wpIn_calm ?_
 refine wpIn_wide.2 ?_
 go_wp2_with fail
 refine wp_region_held_drew (S:=fun w'=>wb.grownBy w' none) (by kernel_rfl) (tt.grown_drew (grown_refl _ _)) (fun hHeld=>?_)
 generalize wb.drew=wd at hHeld ⊢
 refine tl 0 ?_ rfl ?_ ?_ (tl 1 ?_ rfl ?_ ?_ (tl 2 ?_ rfl ?_ ?_ (tl 3 ?_ rfl ?_ ?_ (tl 4 ?_ rfl ?_ ?_ (tl 5 ?_ rfl ?_ ?_ ?_)))))
 iterate 6 (rotate_left;(next=>(try simp only [lay]);((intro w0 hSw;obtain ⟨hs0,⟨hs1,hs2⟩,⟨hs3,hs4,hs5⟩⟩:=HK.out w0 hSw;go_simp);try (with_reducible rfl)));next=>rfl)
 try simp only [lay]
 refine tl 6 ?_ rfl ?_ ?_ (tl 7 ?_ rfl ?_ ?_ (tl 8 ?_ rfl ?_ ?_ (tl 9 ?_ rfl ?_ ?_ (tl 10 ?_ rfl ?_ ?_ (tl 11 ?_ rfl ?_ ?_ ?_)))))
 iterate 6 (rotate_left;(next=>(try simp only [lay]);((intro w0 hSw;obtain ⟨hs0,⟨hs1,hs2⟩,⟨hs3,hs4,hs5⟩⟩:=HK.out w0 hSw;go_simp);try (with_reducible rfl)));next=>rfl)
 try simp only [lay]
 have HD0:=qh hHeld
 refine wpAnyH_ready (rs:=[12,17]) (by kernel_rfl) (by simp) ?_
 refine ac rfl (fun K hK=>?_) (ac rfl (fun K hK=>?_) AllReadyH.nil)
 ·skip
  go_simp
  (with_reducible refine (HQ.out _ hHeld).mono ?_);rintro e wg ⟨rfl,hg5⟩;have HGG:=qh (grown_trans hHeld hg5)
  go_wp2_with fail
  refine hK.out _ _ HGG.out (fun hHeld=>?_)
  clear hK K
  try simp only [lay]
  refine tl 13 ?_ rfl ?_ ?_ (tl 14 ?_ rfl ?_ ?_ (tl 15 ?_ rfl ?_ ?_ (tl 16 ?_ rfl ?_ ?_ ?_)))
  iterate 4 (rotate_left;(next=>(try simp only [lay]);((intro w0 hSw;go_simp);try (with_reducible rfl)));next=>rfl)
  try simp only [lay]
  refine rd 17 rfl fun K hK=>?_
  go_simp
  refine hK.out _ _ (grown_alloc HGG.out _) (fun hHeld=>?_)
  clear hK K
  try simp only [lay]
  refine tl 18 ?_ rfl ?_ ?_ ?_
  (rotate_left;(next=>((intro w0 hSw;go_simp);try (with_reducible rfl)));next=>rfl)
  try simp only [lay]
  refine rd 19 rfl fun K hK=>?_
  go_simp
  refine hK.out _ _ (grown_alloc HGG.out _) (fun hHeld=>?_)
  clear hK K
  try simp only [lay]
  refine tl 20 ?_ rfl ?_ ?_ ?_
  (rotate_left;(next=>((intro w0 hSw;go_simp);try (with_reducible rfl)));next=>rfl)
  try simp only [lay]
  refine wpAnyH_done (by kernel_rfl) ?_ _
  clear hHeld
  obtain ⟨wX,hX⟩:∃ wX,wg.alloc (.cells #[.int .u8 by1] 5)=wX:=⟨_,rfl⟩
  have hgd:wb.grownBy wX none:=by rw [← hX];exact grown_alloc HGG.out _
  have h6:wX.heap[wg.heap.size]?=some (.cells #[.int .u8 by1] 5 (0,0)):=by rw [← hX];exact heap_alloc_new _ _
  have h6l:wb.heap.size ≤ wg.heap.size:=HGG.out.size
  rw [hX]
  obtain ⟨B6,hB⟩:∃ B,wg.heap.size=B:=⟨_,rfl⟩
  rw [hB] at h6 h6l ⊢
  clear hB hX HGG HD0
  have HA6:=qh (HA.out _ hgd)
  have HGD:=qh hgd
  have HB6:Hid (wX.heap[w.heap.size]?=some (.cells (na n) 45 (0,0))):=qh ((hgd.block _ (lt_of HBX.out) (by simp)).trans HBX.out)
  obtain ⟨_,_,f0,f1,f3⟩:=HK.out _ hgd
  have hl:w.heap.size < wX.heap.size:=lt_of HB6.out
  have hl2:¬ w.heap.size=wX.heap.size:=Nat.ne_of_lt hl
  have H6:=qh h6
  have H6L:=qh h6l
  clear hgd h6 h6l
  go_wp2_with fail
  obtain ⟨BA,hBA⟩:∃ B,wX.heap.size=B:=⟨_,rfl⟩
  have h80:(wX.alloc (.cells #[.int .u8 n.k,.int .i64 n.f,.int .u32 (m:Int),.bool false,.int .u64 0] 93)).heap[BA]?=some (.cells #[.int .u8 n.k,.int .i64 n.f,.int .u32 (m:Int),.bool false,.int .u64 0] 93 (0,0)):=by rw [← hBA];exact heap_alloc_new _ _
  have HBAL:Hid (w.heap.size < BA):=qh (by rw [← hBA];exact hl)
  have HF0:Hid ((wX.alloc (.cells #[.int .u8 n.k,.int .i64 n.f,.int .u32 (m:Int),.bool false,.int .u64 0] 93)).heap[h]?=some (.cells #[.int .i64 c.co,.pointer (some ⟨F.mb,0,none⟩),F.ev,.map (some F.ub),.pointer (some ⟨F.pb,0,none⟩)] 88 (0,0))∧(wX.alloc (.cells #[.int .u8 n.k,.int .i64 n.f,.int .u32 (m:Int),.bool false,.int .u64 0] 93)).heap[BA]?=some (.cells #[.int .u8 n.k,.int .i64 n.f,.int .u32 (m:Int),.bool false,.int .u64 0] 93 (0,0))∧(wX.alloc (.cells #[.int .u8 n.k,.int .i64 n.f,.int .u32 (m:Int),.bool false,.int .u64 0] 93)).heap[w.heap.size]?=some (.cells (na n) 45 (0,0))∧(wX.alloc (.cells #[.int .u8 n.k,.int .i64 n.f,.int .u32 (m:Int),.bool false,.int .u64 0] 93)).heap[B6]?=some (.cells #[.int .u8 by1] 5 (0,0))):=qh ⟨(HA6.out.grown (grown_alloc (grown_refl _ _) _)).blk,h80,(Below.heap_alloc _ _ _ hl).trans HB6.out,(Below.heap_alloc _ _ _ (lt_of H6.out)).trans H6.out⟩
  have HAC:Hid (HomeAt (wX.alloc (.cells #[.int .u8 n.k,.int .i64 n.f,.int .u32 (m:Int),.bool false,.int .u64 0] 93)) h c F H):=qh (HA6.out.grown (grown_alloc (grown_refl _ _) _))
  have HGC:Hid (w.grownBy (wX.alloc (.cells #[.int .u8 n.k,.int .i64 n.f,.int .u32 (m:Int),.bool false,.int .u64 0] 93)) none):=qh (grown_alloc (grown_trans HG.out HGD.out) _)
  have HCF:Hid (∀ w':World,(w'.heap[h]?=some (.cells #[.int .i64 c.co,.pointer (some ⟨F.mb,0,none⟩),F.ev,.map (some F.ub),.pointer (some ⟨F.pb,0,none⟩)] 88 (0,0))∧w'.heap[BA]?=some (.cells #[.int .u8 n.k,.int .i64 n.f,.int .u32 (m:Int),.bool false,.int .u64 0] 93 (0,0))∧w'.heap[w.heap.size]?=some (.cells (na n) 45 (0,0))∧w'.heap[B6]?=some (.cells #[.int .u8 by1] 5 (0,0)))→w'.cell? ⟨h,3,none⟩=some (.map (some F.ub))∧(w'.cell? ⟨w.heap.size,3,none⟩=some (.int .i64 (b:Int))∧w'.cell? ⟨w.heap.size,4,none⟩=some (.int .u64 n.st))∧(w'.cell? ⟨BA,0,none⟩=some (.int .u8 n.k)∧w'.cell? ⟨BA,1,none⟩=some (.int .i64 n.f)∧w'.cell? ⟨BA,2,none⟩=some (.int .u32 (m:Int))∧w'.cell? ⟨BA,3,none⟩=some (.bool false)∧w'.cell? ⟨BA,4,none⟩=some (.int .u64 0))∧w'.cell? ⟨B6,0,none⟩=some (.int .u8 by1)):=qh fun w' ⟨e1,e2,e3,e4⟩=>⟨cr e1 3 rfl,⟨by rw [← HNB.out];exact tt.cell_at (HR.out w' e3) 3 _ rfl,tt.cell_at (HR.out w' e3) 4 _ rfl⟩,⟨cr e2 0 rfl,cr e2 1 rfl,cr e2 2 rfl,cr e2 3 rfl,cr e2 4 rfl⟩,cr e4 0 rfl⟩
  have HKP:Hid (∀ w1 w2:World,Did w1 w2 F F→(w1.heap[h]?=some (.cells #[.int .i64 c.co,.pointer (some ⟨F.mb,0,none⟩),F.ev,.map (some F.ub),.pointer (some ⟨F.pb,0,none⟩)] 88 (0,0))∧w1.heap[BA]?=some (.cells #[.int .u8 n.k,.int .i64 n.f,.int .u32 (m:Int),.bool false,.int .u64 0] 93 (0,0))∧w1.heap[w.heap.size]?=some (.cells (na n) 45 (0,0))∧w1.heap[B6]?=some (.cells #[.int .u8 by1] 5 (0,0)))→(w2.heap[h]?=some (.cells #[.int .i64 c.co,.pointer (some ⟨F.mb,0,none⟩),F.ev,.map (some F.ub),.pointer (some ⟨F.pb,0,none⟩)] 88 (0,0))∧w2.heap[BA]?=some (.cells #[.int .u8 n.k,.int .i64 n.f,.int .u32 (m:Int),.bool false,.int .u64 0] 93 (0,0))∧w2.heap[w.heap.size]?=some (.cells (na n) 45 (0,0))∧w2.heap[B6]?=some (.cells #[.int .u8 by1] 5 (0,0)))):=qh fun w1 w2 d ⟨e1,e2,e3,e4⟩=>⟨d.heap e1 HOH.out,d.heap e2 (fun e=>by have:=HOL.out _ e;have:=HBAL.out;omega),d.heap e3 (fun e=>by have:=HOL.out _ e;omega),d.heap e4 (fun e=>by have:=HOL.out _ e;have:=H6L.out;have:=HG.out.size;omega)⟩
  rw [hBA]
  obtain ⟨wC,hwC⟩:∃ wC,wX.alloc (.cells #[.int .u8 n.k,.int .i64 n.f,.int .u32 (m:Int),.bool false,.int .u64 0] 93)=wC:=⟨_,rfl⟩
  rw [hwC] at HF0 HAC HGC ⊢
  clear hBA h80 hl hl2 f0 f1 f3 hwC HA6 HGD HB6 H6
  refine wp_region_held_drew (S:=fun w'=>w'.heap[h]?=some (.cells #[.int .i64 c.co,.pointer (some ⟨F.mb,0,none⟩),F.ev,.map (some F.ub),.pointer (some ⟨F.pb,0,none⟩)] 88 (0,0))∧w'.heap[BA]?=some (.cells #[.int .u8 n.k,.int .i64 n.f,.int .u32 (m:Int),.bool false,.int .u64 0] 93 (0,0))∧w'.heap[w.heap.size]?=some (.cells (na n) 45 (0,0))∧w'.heap[B6]?=some (.cells #[.int .u8 by1] 5 (0,0))) (by kernel_rfl) ⟨HF0.out.1,HF0.out.2.1,HF0.out.2.2.1,HF0.out.2.2.2⟩ (fun hHeld=>?_)
  have hAd:=HAC.out.grown (tt.grown_drew (grown_refl wC none))
  have hGd:=tt.grown_drew HGC.out
  generalize wC.drew=wd2 at hAd hGd hHeld ⊢
  refine tl 0 ?_ rfl ?_ ?_ (tl 1 ?_ rfl ?_ ?_ (tl 2 ?_ rfl ?_ ?_ (tl 3 ?_ rfl ?_ ?_ (tl 4 ?_ rfl ?_ ?_ (tl 5 ?_ rfl ?_ ?_ (tl 6 ?_ rfl ?_ ?_ ?_))))))
  iterate 7 (rotate_left;(next=>(try simp only [lay]);((intro w0 hSw;obtain ⟨hs0,⟨hs1,hs2⟩,⟨hs3,hs4,hs5,hs6,hs7⟩,hs8⟩:=HCF.out w0 hSw;go_simp);try (with_reducible rfl)));next=>rfl)
  try simp only [lay]
  obtain ⟨w2,hmu,hM2,hg2⟩:=tt.run_update_map Tryz.underlying86 Tryz.underlying3 hAd.und (b:Int) (.agg #[.int .u8 n.k,.int .i64 n.f,.int .u32 (m:Int),.bool false,.int .u64 0])
  have hd1:Did wd2 w2 F F:=Did.of_own hg2 fun i e=> .inr (.inr (.inl (Option.some.inj e).symm))
  have HF2:=qh (HKP.out _ _ hd1 hHeld)
  have HA2:=qh (hAd.setUnd hM2 hg2 (und_put HBJ.out ⟨n,m,false,false,0⟩) HIJ.out HOJ.out)
  have HD2:=qh ((Did.of_grown F hGd).trans hd1)
  clear hAd hGd hM2 hg2 hd1
  refine rd 7 rfl fun K hK=>?_
  go_simp
  refine hK.out _ _ HF2.out (fun hHeld=>?_)
  clear hK K
  try simp only [lay]
  refine wpAnyH_done (by kernel_rfl) ?_ _
  clear hHeld hmu
  go_wp2_with (first
   | (go_at_call 76;((with_reducible refine (HCN.out _).mono ?_);rintro e w5 ⟨rfl,nq,hw5⟩;have HG5:Hid (w2.grownBy w5 none):=qh (by rw [hw5];exact tt.grown_drewN (grown_refl _ _) _);clear hw5;obtain ⟨cs,hcs,hmk⟩:=tt.make_cells (mm.pop m 32) HPL.out w5;have HCS:=qh hcs;clear hcs))
   | (go_at_call 77;((with_reducible refine (callsIn_wide.1 (mm.all_in 9 m _)).mono ?_);rintro e w' ⟨rfl,rfl⟩)))
  obtain ⟨W0,hW0⟩:∃ W0,W0=((w5.alloc (.cells cs 45)).alloc (.cells #[.slice (some ⟨w5.heap.size,0,none⟩) 0 (mm.pop m 32)] 24)).alloc (.cells #[.int .u32 (m:Int)] 56):=⟨_,rfl⟩
  have hg5W:w5.grownBy W0 none:=by rw [hW0];exact grown_alloc (grown_alloc (grown_alloc (grown_refl _ _) _) _) _
  have hs0:W0.heap.size=w5.heap.size + 3:=by rw [hW0];simp
  have h31:W0.heap[w5.heap.size]?=some (.cells cs 45 (0,0)):=by rw [hW0];exact (Below.heap_alloc _ _ _ (by simp;omega)).trans ((Below.heap_alloc _ _ _ (by simp)).trans (heap_alloc_new _ _))
  have h42:Boxed W0 (w5.heap.size + 1) 24 (.slice (some ⟨w5.heap.size,0,none⟩) 0 (mm.pop m 32)):=by rw [hW0];exact (Below.heap_alloc _ _ _ (by simp)).trans (heap_new2 _ _ _ _)
  have h45:W0.cell? ⟨w5.heap.size + 2,0,none⟩=some (.int .u32 (m:Int)):=by
   have:=heap_new2 (w5.alloc (.cells cs 45)) (.cells #[.slice (some ⟨w5.heap.size,0,none⟩) 0 (mm.pop m 32)] 24) #[.int .u32 (m:Int)] 56
   rw [World.size_alloc,← hW0] at this
   exact cr this 0 rfl
  rw [← hW0]
  have HNS:Hid (NSl W0 (.slice (some ⟨w5.heap.size,0,none⟩) 0 (mm.pop m 32)) []):=qh (.inr ⟨w5.heap.size,0,mm.pop m 32,cs,rfl,h31,by simp [flat],Nat.zero_le _,by have:=HPL.out;unfold maxLen;omega,by rw [HCS.out];omega,fun k x hk=>by simp [flat] at hk⟩)
  have HGW:Hid (w2.grownBy W0 none):=qh (grown_trans HG5.out hg5W)
  have HFW:Hid (W0.heap[h]?=some (.cells #[.int .i64 c.co,.pointer (some ⟨F.mb,0,none⟩),F.ev,.map (some F.ub),.pointer (some ⟨F.pb,0,none⟩)] 88 (0,0))∧W0.heap[BA]?=some (.cells #[.int .u8 n.k,.int .i64 n.f,.int .u32 (m:Int),.bool false,.int .u64 0] 93 (0,0))∧W0.heap[w.heap.size]?=some (.cells (na n) 45 (0,0))∧W0.heap[B6]?=some (.cells #[.int .u8 by1] 5 (0,0))):=qh (HKP.out _ _ (Did.of_grown F HGW.out) HF2.out)
  have HAW:=qh (HA2.out.grown HGW.out)
  have HDW:=qh (HD2.out.trans (Did.of_grown F HGW.out))
  have HTW:=(HDW.out.tabs HAW.out.low).1 HTT.out
  have HS5:Hid (w.heap.size < w5.heap.size∧BA < w5.heap.size∧B6 < w5.heap.size∧h < w5.heap.size∧w2.heap.size ≤ w5.heap.size):=qh (by
   have h1:=lt_of HF2.out.1
   have h2:=lt_of HF2.out.2.1
   have h3:=lt_of HF2.out.2.2.1
   have h4:=lt_of HF2.out.2.2.2
   have h5:=HG5.out.size
   omega)
  have HTL:2 < W0.heap.size:=HTW.lt
  have HZ:Hid (∀ x:Int,na (bare by1 (-1) x (b:Int) n.st 0 false false)=_):=qh fun x=>tt.bare_na by1 (-1) x (b:Int) n.st 0 false false
  obtain ⟨i0,hi,hz0,hz1,hz2⟩:=info_parts tt.infoN
  have HS0:=qh hs0
  clear hW0 hmk hg5W h31
  refine (wpIn_wide (n:=9)).1 ?_
  apply tt.range_fr (fun (j:Nat) (t:Array Value)=>(t.setIfInBounds 59 (.int .i64 (j:Int))).setIfInBounds 10 (.int .i64 (j:Int))) rfl (by omega) (gf:=103) (lb:=#[.pointer (some ⟨w5.heap.size + 2,0,none⟩)]) rfl trivial (enters_of Tryz.func103 (by kernel_rfl) rfl)
   (Kp:=Below w5.heap.size) (mm.all_stops 8 (by omega) (w5.heap.size + 2) w5.heap.size m HML.out W0 (by omega) (by have:=HAL.out;have:=HS5.out;omega) h45 HTW) (fun {A B C} h k=>h.trans k) (fun W l o o' hl _ _ _=>tt.below_put W o' (by omega)) (Below.refl _ _) (fun _=>rfl)
   (fun pre X=>(∃ u,Boxed X (w5.heap.size + 1) 24 u∧NSl X u (pre.map fun (x:Nat)=>bare by1 (-1) (x:Int) (b:Int) n.st 0 false false)∧∀ k,u.ownBlock=some k→w5.heap.size ≤ k)∧Below w5.heap.size W0 X)
   (fun cc ys X=>False)
   (OwnFrom.and (en.ownFrom_map (fun pre:List Nat=>pre.map fun (x:Nat)=>bare by1 (-1) (x:Int) (b:Int) n.st 0 false false) (tt.acc_from2 _ _)) (ownFrom_below (by omega) (by omega)))
   (fun c' s A B row hs hg hr=>hs)
   ⟨⟨_,h42,HNS.out,fun k hk=>by simp [Value.ownBlock] at hk;omega⟩,Below.refl _ _⟩
  case hassign=>
   rintro l' pre j X K hI hK
   have HK:=qh (hK X (KeepsFrom.refl _ _) (Below.refl _ _) hI)
   clear hK hI
   try simp only [List.setIfInBounds_toArray,List.set_cons_zero,List.set_cons_succ] at HK
   gi_wp2
   exact HK.out
  case hbody=>
   rintro l' pre j X hl' ⟨⟨u,hb1,hb2,hb3⟩,hbl⟩ hlt
   simp only [List.setIfInBounds_toArray,List.set_cons_zero,List.set_cons_succ]
   obtain ⟨_,⟨q3,q4⟩,_,q6⟩:=HCF.out W0 HFW.out
   have r3:=(hbl.cell (p:=⟨w.heap.size,3,none⟩) (by have:=HS5.out;simp;omega)).trans q3
   have r4:=(hbl.cell (p:=⟨w.heap.size,4,none⟩) (by have:=HS5.out;simp;omega)).trans q4
   have r6:=(hbl.cell (p:=⟨B6,0,none⟩) (by have:=HS5.out;simp;omega)).trans q6
   have HMS:Hid (List.map (fun (x:Nat)=>bare by1 (-1) (x:Int) (b:Int) n.st 0 false false) (pre ++ [j])=pre.map (fun (x:Nat)=>bare by1 (-1) (x:Int) (b:Int) n.st 0 false false) ++ [bare by1 (-1) (j:Int) (b:Int) n.st 0 false false]):=qh (by simp)
   have HPL2:Hid ((pre.map (fun (x:Nat)=>bare by1 (-1) (x:Int) (b:Int) n.st 0 false false)).length < 32):=qh (by rw [List.length_map];exact Nat.lt_of_lt_of_le hlt (by have:=mm.ones_len m;have:=HPL.out;omega))
   obtain ⟨x,hx⟩:∃ x,x=bare by1 (-1) (j:Int) (b:Int) n.st 0 false false:=⟨_,rfl⟩
   obtain ⟨ms,hms⟩:∃ ms,ms=pre.map (fun (x:Nat)=>bare by1 (-1) (x:Int) (b:Int) n.st 0 false false):=⟨_,rfl⟩
   have hA:=(HZ.out (j:Int)).symm
   rw [← hx] at hA HMS
   rw [← hms] at hb2 HMS HPL2
   obtain ⟨ad,cap2,rfl⟩:=hb2.form
   have hc1:=hb1.cell
   have hnsz:=tt.na_size x
   have hfd:=tt.build_na x
   have hbls:=hbl.size
   have HS:=qh (hb2.grown (w':=X.alloc (.cells (na x) 45)) (grown_alloc (grown_refl _ _) _))
   have HR2:Hid (Src Tryz.prog 24 24 (.slice (some ⟨X.heap.size,0,none⟩) 1 1) 1 (nt x) (X.alloc (.cells (na x) 45))):=qh (tt.src_one' _ X.heap.size (na x) _ (nt x) 24 Tryz.underlying24 (heap_alloc_new _ _) rfl (tt.nt_len x) (tt.nt_one x))
   have HST:Hid (∀ v4 X4,_→_→_→_):=qh fun v4 X4 h4 hg hn=>tt.acc_step2 (B0:=W0.heap.size) hb1 hb2 hb3 (Nat.le_succ _) (by omega) (v4:=v4) (X4:=X4) (x:=x) h4 hg hn
   have HBL:=qh hbl
   clear hb1 hb2 hb3 hbl hlt hl' hx hms q3 q4 q6 h42 h45 HTW hs0 hbls
   gi_wp2_with (gi_at_builtin;go_loud (refine tt.append_slJ rfl _ _ 24 rfl 45 24 i0 (.agg (na zn)) 112 Tryz.underlying24 hi hz0 hz1 hz2 tt.zn_cells _ ms.length (flat nt ms) rfl HS.out _ 1 (nt x) rfl HR2.out (by have:=HPL2.out;unfold maxLen;omega) (by have:=HPL2.out;omega) ?_;intro v4 X4 h4 hg4 hn4;obtain ⟨⟨hc4,hf4⟩,h5⟩:=HST.out v4 X4 h4 hg4 hn4;have HF5:=qh h5;clear h5 hg4 hn4;obtain ⟨ad4,cap4,rfl⟩:=h4.form;clear h4))
   exact ⟨HF5.out.1,HF5.out.2.1,by rw [HMS.out];exact HF5.out.2.2,HBL.out.trans HF5.out.2.1⟩
  case hdone=>
   rintro D ys X hD rfl ⟨⟨u,hb1,hb2,hb3⟩,hbl⟩ hK
   have hc1:=hb1.cell
   obtain ⟨ad,cap2,rfl⟩:=hb2.form
   have HX2:=qh hb2
   have HX3:=qh hb3
   have HXL:=qh hbl
   have HXK:=qh hK
   have HXD:Hid (W0.heap.size ≤ D):=qh hD
   clear hb1 hb2 hb3 hbl hK h42 h45 HTW hD
   generalize ((ones m).map (fun (x:Nat)=>bare by1 (-1) (x:Int) (b:Int) n.st 0 false false)).length=ln at hc1 HX2 HX3
   go_wp2_with fail
   refine calm_ret ?_
   refine ⟨by simp,.inl ⟨_,_,rfl,run_takeDeferred HXK.out,?_⟩⟩
   have hYg:w2.grownBy (X.putObj D (.deferred none)) none:=by
    have h1:=HXL.out.trans (tt.below_put (n₀:=w5.heap.size) (l:=D) X (.deferred none) (by have:=HXD.out;have:=HS0.out;omega))
    have h2:=HGW.out
    exact ⟨h1.os.trans h2.os,h1.tape.trans h2.tape,h1.output.trans h2.output,Nat.le_trans h2.size h1.size,fun k hk hn=>(h1.block k (by have:=HS5.out;omega)).trans (h2.block k hk hn)⟩
   refine ⟨_,results_tmp rfl _ _ _,_,rfl,HA2.out.grown hYg,?_,HD2.out.trans (Did.of_grown F hYg),fun k hk=>?_⟩
   ·rw [HNB.out]
    exact HX2.out.of_block (fun g hg=>World.putObj_heap_other (fun e=>by
     obtain ⟨cur,hcur⟩:=HX2.out.type g hg
     subst e
     rw [hcur] at HXK;cases HXK.out))
   ·have:=HX3.out k hk
    have:=HS5.out
    omega
  case hstop=>
   rintro D c' pre X hD hpre hF hK
   exact hF.elim
 ·skip
  go_simp
  refine hK.out _ _ (grown_alloc HD0.out _) (fun hHeld=>?_)
  clear hK K
  try simp only [lay]
  refine rd 12 rfl fun K hK=>?_
  go_simp
  (with_reducible refine (HQ.out _ hHeld).mono ?_);rintro e wg ⟨rfl,hg5⟩;have HGG:=qh (grown_trans hHeld hg5);have HZ7:=qh ((hg5.block wd.heap.size (by simp) (by simp)).trans (heap_alloc_new _ _))
  go_wp2_with fail
  refine hK.out _ _ HGG.out (fun hHeld=>?_)
  clear hK K
  try simp only [lay]
  refine tl 13 ?_ rfl ?_ ?_ (tl 14 ?_ rfl ?_ ?_ (tl 15 ?_ rfl ?_ ?_ (tl 16 ?_ rfl ?_ ?_ (tl 18 ?_ rfl ?_ ?_ ?_))))
  iterate 5 (rotate_left;(next=>(try simp only [lay]);((intro w0 hSw;go_simp);try (with_reducible rfl)));next=>rfl)
  try simp only [lay]
  have z0:=cr HZ7.out 0 rfl
  have zf0:wg.frozen? ⟨wd.heap.size,0,none⟩=false:=by simp [World.frozen?,HZ7.out]
  refine rd 19 rfl fun K hK=>?_
  go_simp
  refine hK.out _ _ (grown_put1 HGG.out HD0.out.size) (fun hHeld=>?_)
  clear hK K
  try simp only [lay]
  refine tl 20 ?_ rfl ?_ ?_ ?_
  (rotate_left;(next=>((intro w0 hSw;go_simp);try (with_reducible rfl)));next=>rfl)
  try simp only [lay]
  refine wpAnyH_done (by kernel_rfl) ?_ _
  clear hHeld z0 zf0
  obtain ⟨wX,hX⟩:∃ wX,wg.setCell ⟨wd.heap.size,0,none⟩ (.int .u8 by1)=wX:=⟨_,rfl⟩
  have hgd:wb.grownBy wX none:=by rw [← hX];exact grown_put1 HGG.out HD0.out.size
  have h6:wX.heap[wd.heap.size]?=some (.cells #[.int .u8 by1] 5 (0,0)):=by rw [← hX];exact put_one HZ7.out _
  have h6l:wb.heap.size ≤ wd.heap.size:=HD0.out.size
  rw [hX]
  obtain ⟨B6,hB⟩:∃ B,wd.heap.size=B:=⟨_,rfl⟩
  rw [hB] at h6 h6l ⊢
  clear hB hX HGG HD0 HZ7
  have HA6:=qh (HA.out _ hgd)
  have HGD:=qh hgd
  have HB6:Hid (wX.heap[w.heap.size]?=some (.cells (na n) 45 (0,0))):=qh ((hgd.block _ (lt_of HBX.out) (by simp)).trans HBX.out)
  obtain ⟨_,_,f0,f1,f3⟩:=HK.out _ hgd
  have hl:w.heap.size < wX.heap.size:=lt_of HB6.out
  have hl2:¬ w.heap.size=wX.heap.size:=Nat.ne_of_lt hl
  have H6:=qh h6
  have H6L:=qh h6l
  clear hgd h6 h6l
  go_wp2_with fail
  obtain ⟨BA,hBA⟩:∃ B,wX.heap.size=B:=⟨_,rfl⟩
  have h80:(wX.alloc (.cells #[.int .u8 n.k,.int .i64 n.f,.int .u32 (m:Int),.bool false,.int .u64 0] 93)).heap[BA]?=some (.cells #[.int .u8 n.k,.int .i64 n.f,.int .u32 (m:Int),.bool false,.int .u64 0] 93 (0,0)):=by rw [← hBA];exact heap_alloc_new _ _
  have HBAL:Hid (w.heap.size < BA):=qh (by rw [← hBA];exact hl)
  have HF0:Hid ((wX.alloc (.cells #[.int .u8 n.k,.int .i64 n.f,.int .u32 (m:Int),.bool false,.int .u64 0] 93)).heap[h]?=some (.cells #[.int .i64 c.co,.pointer (some ⟨F.mb,0,none⟩),F.ev,.map (some F.ub),.pointer (some ⟨F.pb,0,none⟩)] 88 (0,0))∧(wX.alloc (.cells #[.int .u8 n.k,.int .i64 n.f,.int .u32 (m:Int),.bool false,.int .u64 0] 93)).heap[BA]?=some (.cells #[.int .u8 n.k,.int .i64 n.f,.int .u32 (m:Int),.bool false,.int .u64 0] 93 (0,0))∧(wX.alloc (.cells #[.int .u8 n.k,.int .i64 n.f,.int .u32 (m:Int),.bool false,.int .u64 0] 93)).heap[w.heap.size]?=some (.cells (na n) 45 (0,0))∧(wX.alloc (.cells #[.int .u8 n.k,.int .i64 n.f,.int .u32 (m:Int),.bool false,.int .u64 0] 93)).heap[B6]?=some (.cells #[.int .u8 by1] 5 (0,0))):=qh ⟨(HA6.out.grown (grown_alloc (grown_refl _ _) _)).blk,h80,(Below.heap_alloc _ _ _ hl).trans HB6.out,(Below.heap_alloc _ _ _ (lt_of H6.out)).trans H6.out⟩
  have HAC:Hid (HomeAt (wX.alloc (.cells #[.int .u8 n.k,.int .i64 n.f,.int .u32 (m:Int),.bool false,.int .u64 0] 93)) h c F H):=qh (HA6.out.grown (grown_alloc (grown_refl _ _) _))
  have HGC:Hid (w.grownBy (wX.alloc (.cells #[.int .u8 n.k,.int .i64 n.f,.int .u32 (m:Int),.bool false,.int .u64 0] 93)) none):=qh (grown_alloc (grown_trans HG.out HGD.out) _)
  have HCF:Hid (∀ w':World,(w'.heap[h]?=some (.cells #[.int .i64 c.co,.pointer (some ⟨F.mb,0,none⟩),F.ev,.map (some F.ub),.pointer (some ⟨F.pb,0,none⟩)] 88 (0,0))∧w'.heap[BA]?=some (.cells #[.int .u8 n.k,.int .i64 n.f,.int .u32 (m:Int),.bool false,.int .u64 0] 93 (0,0))∧w'.heap[w.heap.size]?=some (.cells (na n) 45 (0,0))∧w'.heap[B6]?=some (.cells #[.int .u8 by1] 5 (0,0)))→w'.cell? ⟨h,3,none⟩=some (.map (some F.ub))∧(w'.cell? ⟨w.heap.size,3,none⟩=some (.int .i64 (b:Int))∧w'.cell? ⟨w.heap.size,4,none⟩=some (.int .u64 n.st))∧(w'.cell? ⟨BA,0,none⟩=some (.int .u8 n.k)∧w'.cell? ⟨BA,1,none⟩=some (.int .i64 n.f)∧w'.cell? ⟨BA,2,none⟩=some (.int .u32 (m:Int))∧w'.cell? ⟨BA,3,none⟩=some (.bool false)∧w'.cell? ⟨BA,4,none⟩=some (.int .u64 0))∧w'.cell? ⟨B6,0,none⟩=some (.int .u8 by1)):=qh fun w' ⟨e1,e2,e3,e4⟩=>⟨cr e1 3 rfl,⟨by rw [← HNB.out];exact tt.cell_at (HR.out w' e3) 3 _ rfl,tt.cell_at (HR.out w' e3) 4 _ rfl⟩,⟨cr e2 0 rfl,cr e2 1 rfl,cr e2 2 rfl,cr e2 3 rfl,cr e2 4 rfl⟩,cr e4 0 rfl⟩
  have HKP:Hid (∀ w1 w2:World,Did w1 w2 F F→(w1.heap[h]?=some (.cells #[.int .i64 c.co,.pointer (some ⟨F.mb,0,none⟩),F.ev,.map (some F.ub),.pointer (some ⟨F.pb,0,none⟩)] 88 (0,0))∧w1.heap[BA]?=some (.cells #[.int .u8 n.k,.int .i64 n.f,.int .u32 (m:Int),.bool false,.int .u64 0] 93 (0,0))∧w1.heap[w.heap.size]?=some (.cells (na n) 45 (0,0))∧w1.heap[B6]?=some (.cells #[.int .u8 by1] 5 (0,0)))→(w2.heap[h]?=some (.cells #[.int .i64 c.co,.pointer (some ⟨F.mb,0,none⟩),F.ev,.map (some F.ub),.pointer (some ⟨F.pb,0,none⟩)] 88 (0,0))∧w2.heap[BA]?=some (.cells #[.int .u8 n.k,.int .i64 n.f,.int .u32 (m:Int),.bool false,.int .u64 0] 93 (0,0))∧w2.heap[w.heap.size]?=some (.cells (na n) 45 (0,0))∧w2.heap[B6]?=some (.cells #[.int .u8 by1] 5 (0,0)))):=qh fun w1 w2 d ⟨e1,e2,e3,e4⟩=>⟨d.heap e1 HOH.out,d.heap e2 (fun e=>by have:=HOL.out _ e;have:=HBAL.out;omega),d.heap e3 (fun e=>by have:=HOL.out _ e;omega),d.heap e4 (fun e=>by have:=HOL.out _ e;have:=H6L.out;have:=HG.out.size;omega)⟩
  rw [hBA]
  obtain ⟨wC,hwC⟩:∃ wC,wX.alloc (.cells #[.int .u8 n.k,.int .i64 n.f,.int .u32 (m:Int),.bool false,.int .u64 0] 93)=wC:=⟨_,rfl⟩
  rw [hwC] at HF0 HAC HGC ⊢
  clear hBA h80 hl hl2 f0 f1 f3 hwC HA6 HGD HB6 H6
  refine wp_region_held_drew (S:=fun w'=>w'.heap[h]?=some (.cells #[.int .i64 c.co,.pointer (some ⟨F.mb,0,none⟩),F.ev,.map (some F.ub),.pointer (some ⟨F.pb,0,none⟩)] 88 (0,0))∧w'.heap[BA]?=some (.cells #[.int .u8 n.k,.int .i64 n.f,.int .u32 (m:Int),.bool false,.int .u64 0] 93 (0,0))∧w'.heap[w.heap.size]?=some (.cells (na n) 45 (0,0))∧w'.heap[B6]?=some (.cells #[.int .u8 by1] 5 (0,0))) (by kernel_rfl) ⟨HF0.out.1,HF0.out.2.1,HF0.out.2.2.1,HF0.out.2.2.2⟩ (fun hHeld=>?_)
  have hAd:=HAC.out.grown (tt.grown_drew (grown_refl wC none))
  have hGd:=tt.grown_drew HGC.out
  generalize wC.drew=wd2 at hAd hGd hHeld ⊢
  refine tl 0 ?_ rfl ?_ ?_ (tl 1 ?_ rfl ?_ ?_ (tl 2 ?_ rfl ?_ ?_ (tl 3 ?_ rfl ?_ ?_ (tl 4 ?_ rfl ?_ ?_ (tl 5 ?_ rfl ?_ ?_ (tl 6 ?_ rfl ?_ ?_ ?_))))))
  iterate 7 (rotate_left;(next=>(try simp only [lay]);((intro w0 hSw;obtain ⟨hs0,⟨hs1,hs2⟩,⟨hs3,hs4,hs5,hs6,hs7⟩,hs8⟩:=HCF.out w0 hSw;go_simp);try (with_reducible rfl)));next=>rfl)
  try simp only [lay]
  obtain ⟨w2,hmu,hM2,hg2⟩:=tt.run_update_map Tryz.underlying86 Tryz.underlying3 hAd.und (b:Int) (.agg #[.int .u8 n.k,.int .i64 n.f,.int .u32 (m:Int),.bool false,.int .u64 0])
  have hd1:Did wd2 w2 F F:=Did.of_own hg2 fun i e=> .inr (.inr (.inl (Option.some.inj e).symm))
  have HF2:=qh (HKP.out _ _ hd1 hHeld)
  have HA2:=qh (hAd.setUnd hM2 hg2 (und_put HBJ.out ⟨n,m,false,false,0⟩) HIJ.out HOJ.out)
  have HD2:=qh ((Did.of_grown F hGd).trans hd1)
  clear hAd hGd hM2 hg2 hd1
  refine rd 7 rfl fun K hK=>?_
  go_simp
  refine hK.out _ _ HF2.out (fun hHeld=>?_)
  clear hK K
  try simp only [lay]
  refine wpAnyH_done (by kernel_rfl) ?_ _
  clear hHeld hmu
  go_wp2_with (first
   | (go_at_call 76;((with_reducible refine (HCN.out _).mono ?_);rintro e w5 ⟨rfl,nq,hw5⟩;have HG5:Hid (w2.grownBy w5 none):=qh (by rw [hw5];exact tt.grown_drewN (grown_refl _ _) _);clear hw5;obtain ⟨cs,hcs,hmk⟩:=tt.make_cells (mm.pop m 32) HPL.out w5;have HCS:=qh hcs;clear hcs))
   | (go_at_call 77;((with_reducible refine (callsIn_wide.1 (mm.all_in 9 m _)).mono ?_);rintro e w' ⟨rfl,rfl⟩)))
  obtain ⟨W0,hW0⟩:∃ W0,W0=((w5.alloc (.cells cs 45)).alloc (.cells #[.slice (some ⟨w5.heap.size,0,none⟩) 0 (mm.pop m 32)] 24)).alloc (.cells #[.int .u32 (m:Int)] 56):=⟨_,rfl⟩
  have hg5W:w5.grownBy W0 none:=by rw [hW0];exact grown_alloc (grown_alloc (grown_alloc (grown_refl _ _) _) _) _
  have hs0:W0.heap.size=w5.heap.size + 3:=by rw [hW0];simp
  have h31:W0.heap[w5.heap.size]?=some (.cells cs 45 (0,0)):=by rw [hW0];exact (Below.heap_alloc _ _ _ (by simp;omega)).trans ((Below.heap_alloc _ _ _ (by simp)).trans (heap_alloc_new _ _))
  have h42:Boxed W0 (w5.heap.size + 1) 24 (.slice (some ⟨w5.heap.size,0,none⟩) 0 (mm.pop m 32)):=by rw [hW0];exact (Below.heap_alloc _ _ _ (by simp)).trans (heap_new2 _ _ _ _)
  have h45:W0.cell? ⟨w5.heap.size + 2,0,none⟩=some (.int .u32 (m:Int)):=by
   have:=heap_new2 (w5.alloc (.cells cs 45)) (.cells #[.slice (some ⟨w5.heap.size,0,none⟩) 0 (mm.pop m 32)] 24) #[.int .u32 (m:Int)] 56
   rw [World.size_alloc,← hW0] at this
   exact cr this 0 rfl
  rw [← hW0]
  have HNS:Hid (NSl W0 (.slice (some ⟨w5.heap.size,0,none⟩) 0 (mm.pop m 32)) []):=qh (.inr ⟨w5.heap.size,0,mm.pop m 32,cs,rfl,h31,by simp [flat],Nat.zero_le _,by have:=HPL.out;unfold maxLen;omega,by rw [HCS.out];omega,fun k x hk=>by simp [flat] at hk⟩)
  have HGW:Hid (w2.grownBy W0 none):=qh (grown_trans HG5.out hg5W)
  have HFW:Hid (W0.heap[h]?=some (.cells #[.int .i64 c.co,.pointer (some ⟨F.mb,0,none⟩),F.ev,.map (some F.ub),.pointer (some ⟨F.pb,0,none⟩)] 88 (0,0))∧W0.heap[BA]?=some (.cells #[.int .u8 n.k,.int .i64 n.f,.int .u32 (m:Int),.bool false,.int .u64 0] 93 (0,0))∧W0.heap[w.heap.size]?=some (.cells (na n) 45 (0,0))∧W0.heap[B6]?=some (.cells #[.int .u8 by1] 5 (0,0))):=qh (HKP.out _ _ (Did.of_grown F HGW.out) HF2.out)
  have HAW:=qh (HA2.out.grown HGW.out)
  have HDW:=qh (HD2.out.trans (Did.of_grown F HGW.out))
  have HTW:=(HDW.out.tabs HAW.out.low).1 HTT.out
  have HS5:Hid (w.heap.size < w5.heap.size∧BA < w5.heap.size∧B6 < w5.heap.size∧h < w5.heap.size∧w2.heap.size ≤ w5.heap.size):=qh (by
   have h1:=lt_of HF2.out.1
   have h2:=lt_of HF2.out.2.1
   have h3:=lt_of HF2.out.2.2.1
   have h4:=lt_of HF2.out.2.2.2
   have h5:=HG5.out.size
   omega)
  have HTL:2 < W0.heap.size:=HTW.lt
  have HZ:Hid (∀ x:Int,na (bare by1 (-1) x (b:Int) n.st 0 false false)=_):=qh fun x=>tt.bare_na by1 (-1) x (b:Int) n.st 0 false false
  obtain ⟨i0,hi,hz0,hz1,hz2⟩:=info_parts tt.infoN
  have HS0:=qh hs0
  clear hW0 hmk hg5W h31
  refine (wpIn_wide (n:=9)).1 ?_
  apply tt.range_fr (fun (j:Nat) (t:Array Value)=>(t.setIfInBounds 59 (.int .i64 (j:Int))).setIfInBounds 10 (.int .i64 (j:Int))) rfl (by omega) (gf:=103) (lb:=#[.pointer (some ⟨w5.heap.size + 2,0,none⟩)]) rfl trivial (enters_of Tryz.func103 (by kernel_rfl) rfl)
   (Kp:=Below w5.heap.size) (mm.all_stops 8 (by omega) (w5.heap.size + 2) w5.heap.size m HML.out W0 (by omega) (by have:=HAL.out;have:=HS5.out;omega) h45 HTW) (fun {A B C} h k=>h.trans k) (fun W l o o' hl _ _ _=>tt.below_put W o' (by omega)) (Below.refl _ _) (fun _=>rfl)
   (fun pre X=>(∃ u,Boxed X (w5.heap.size + 1) 24 u∧NSl X u (pre.map fun (x:Nat)=>bare by1 (-1) (x:Int) (b:Int) n.st 0 false false)∧∀ k,u.ownBlock=some k→w5.heap.size ≤ k)∧Below w5.heap.size W0 X)
   (fun cc ys X=>False)
   (OwnFrom.and (en.ownFrom_map (fun pre:List Nat=>pre.map fun (x:Nat)=>bare by1 (-1) (x:Int) (b:Int) n.st 0 false false) (tt.acc_from2 _ _)) (ownFrom_below (by omega) (by omega)))
   (fun c' s A B row hs hg hr=>hs)
   ⟨⟨_,h42,HNS.out,fun k hk=>by simp [Value.ownBlock] at hk;omega⟩,Below.refl _ _⟩
  case hassign=>
   rintro l' pre j X K hI hK
   have HK:=qh (hK X (KeepsFrom.refl _ _) (Below.refl _ _) hI)
   clear hK hI
   try simp only [List.setIfInBounds_toArray,List.set_cons_zero,List.set_cons_succ] at HK
   gi_wp2
   exact HK.out
  case hbody=>
   rintro l' pre j X hl' ⟨⟨u,hb1,hb2,hb3⟩,hbl⟩ hlt
   simp only [List.setIfInBounds_toArray,List.set_cons_zero,List.set_cons_succ]
   obtain ⟨_,⟨q3,q4⟩,_,q6⟩:=HCF.out W0 HFW.out
   have r3:=(hbl.cell (p:=⟨w.heap.size,3,none⟩) (by have:=HS5.out;simp;omega)).trans q3
   have r4:=(hbl.cell (p:=⟨w.heap.size,4,none⟩) (by have:=HS5.out;simp;omega)).trans q4
   have r6:=(hbl.cell (p:=⟨B6,0,none⟩) (by have:=HS5.out;simp;omega)).trans q6
   have HMS:Hid (List.map (fun (x:Nat)=>bare by1 (-1) (x:Int) (b:Int) n.st 0 false false) (pre ++ [j])=pre.map (fun (x:Nat)=>bare by1 (-1) (x:Int) (b:Int) n.st 0 false false) ++ [bare by1 (-1) (j:Int) (b:Int) n.st 0 false false]):=qh (by simp)
   have HPL2:Hid ((pre.map (fun (x:Nat)=>bare by1 (-1) (x:Int) (b:Int) n.st 0 false false)).length < 32):=qh (by rw [List.length_map];exact Nat.lt_of_lt_of_le hlt (by have:=mm.ones_len m;have:=HPL.out;omega))
   obtain ⟨x,hx⟩:∃ x,x=bare by1 (-1) (j:Int) (b:Int) n.st 0 false false:=⟨_,rfl⟩
   obtain ⟨ms,hms⟩:∃ ms,ms=pre.map (fun (x:Nat)=>bare by1 (-1) (x:Int) (b:Int) n.st 0 false false):=⟨_,rfl⟩
   have hA:=(HZ.out (j:Int)).symm
   rw [← hx] at hA HMS
   rw [← hms] at hb2 HMS HPL2
   obtain ⟨ad,cap2,rfl⟩:=hb2.form
   have hc1:=hb1.cell
   have hnsz:=tt.na_size x
   have hfd:=tt.build_na x
   have hbls:=hbl.size
   have HS:=qh (hb2.grown (w':=X.alloc (.cells (na x) 45)) (grown_alloc (grown_refl _ _) _))
   have HR2:Hid (Src Tryz.prog 24 24 (.slice (some ⟨X.heap.size,0,none⟩) 1 1) 1 (nt x) (X.alloc (.cells (na x) 45))):=qh (tt.src_one' _ X.heap.size (na x) _ (nt x) 24 Tryz.underlying24 (heap_alloc_new _ _) rfl (tt.nt_len x) (tt.nt_one x))
   have HST:Hid (∀ v4 X4,_→_→_→_):=qh fun v4 X4 h4 hg hn=>tt.acc_step2 (B0:=W0.heap.size) hb1 hb2 hb3 (Nat.le_succ _) (by omega) (v4:=v4) (X4:=X4) (x:=x) h4 hg hn
   have HBL:=qh hbl
   clear hb1 hb2 hb3 hbl hlt hl' hx hms q3 q4 q6 h42 h45 HTW hs0 hbls
   gi_wp2_with (gi_at_builtin;go_loud (refine tt.append_slJ rfl _ _ 24 rfl 45 24 i0 (.agg (na zn)) 112 Tryz.underlying24 hi hz0 hz1 hz2 tt.zn_cells _ ms.length (flat nt ms) rfl HS.out _ 1 (nt x) rfl HR2.out (by have:=HPL2.out;unfold maxLen;omega) (by have:=HPL2.out;omega) ?_;intro v4 X4 h4 hg4 hn4;obtain ⟨⟨hc4,hf4⟩,h5⟩:=HST.out v4 X4 h4 hg4 hn4;have HF5:=qh h5;clear h5 hg4 hn4;obtain ⟨ad4,cap4,rfl⟩:=h4.form;clear h4))
   exact ⟨HF5.out.1,HF5.out.2.1,by rw [HMS.out];exact HF5.out.2.2,HBL.out.trans HF5.out.2.1⟩
  case hdone=>
   rintro D ys X hD rfl ⟨⟨u,hb1,hb2,hb3⟩,hbl⟩ hK
   have hc1:=hb1.cell
   obtain ⟨ad,cap2,rfl⟩:=hb2.form
   have HX2:=qh hb2
   have HX3:=qh hb3
   have HXL:=qh hbl
   have HXK:=qh hK
   have HXD:Hid (W0.heap.size ≤ D):=qh hD
   clear hb1 hb2 hb3 hbl hK h42 h45 HTW hD
   generalize ((ones m).map (fun (x:Nat)=>bare by1 (-1) (x:Int) (b:Int) n.st 0 false false)).length=ln at hc1 HX2 HX3
   go_wp2_with fail
   refine calm_ret ?_
   refine ⟨by simp,.inl ⟨_,_,rfl,run_takeDeferred HXK.out,?_⟩⟩
   have hYg:w2.grownBy (X.putObj D (.deferred none)) none:=by
    have h1:=HXL.out.trans (tt.below_put (n₀:=w5.heap.size) (l:=D) X (.deferred none) (by have:=HXD.out;have:=HS0.out;omega))
    have h2:=HGW.out
    exact ⟨h1.os.trans h2.os,h1.tape.trans h2.tape,h1.output.trans h2.output,Nat.le_trans h2.size h1.size,fun k hk hn=>(h1.block k (by have:=HS5.out;omega)).trans (h2.block k hk hn)⟩
   refine ⟨_,results_tmp rfl _ _ _,_,rfl,HA2.out.grown hYg,?_,HD2.out.trans (Did.of_grown F hYg),fun k hk=>?_⟩
   ·rw [HNB.out]
    exact HX2.out.of_block (fun g hg=>World.putObj_heap_other (fun e=>by
     obtain ⟨cur,hcur⟩:=HX2.out.type g hg
     subst e
     rw [hcur] at HXK;cases HXK.out))
   ·have:=HX3.out k hk
    have:=HS5.out
    omega
  case hstop=>
   rintro D c' pre X hD hpre hF hK
   exact hF.elim
end
end Go.Proofs.YtenhdijbcdkfbaaGreatDoor.hh
namespace Go.Proofs.YtenhdijbcdkfbaaGreatDoor.hh
set_option linter.unusedVariables false
set_option linter.unusedSimpArgs false
set_option maxRecDepth 1000000
set_option maxHeartbeats 16000000
open Go Go.ChangeShapes Go.WideShapes Go.ChangeAt Go.RowKit
open Go.Proofs.YtenhdijbcdkfbaaGreatDoor.tt (Nt Cfg fits net bare zd usd uses coreOf ok_ends MapAt mput mdel ik NPool NSl Turn flat na nt zn grown_alloc grown_refl grown_trans tyne lt_of)
open Go.Proofs.YtenhdijbcdkfbaaGreatDoor.en (En gets back asked asks free ask_parts may_parts ea)
open Go.Proofs.YtenhdijbcdkfbaaGreatDoor.mm (wi wo ones wo_lt)
theorem ok_none {jb:List (Option Jb)} (h:∀ (b:Nat) (j:Jb),jb[b]?=some (some j)→j.d=decide (j.w=0)) (b:Nat):∀ (b':Nat) (j':Jb),(jb.set b none)[b']?=some (some j')→j'.d=decide (j'.w=0):=fun b' j' h'=>by
 rw [List.getElem?_set] at h'
 by_cases hb:b=b'
 ·rw [if_pos hb] at h'
  by_cases hl:b < jb.length
  ·rw [if_pos hl] at h';cases h'
  ·rw [if_neg hl] at h';cases h'
 ·rw [if_neg hb] at h';exact h b' j' h'
def mark (D:Nat):Deferred:={ target:= .collected D,args:=#[] }
structure Marks (n0:Nat) (W:World) (Ds:List Nat):Prop where
 nd:Ds.Nodup
 at_:∀ D ∈ Ds,n0 ≤ D∧W.heap[D]?=some (.deferred (some []))
theorem leaves_all {F:Fence} {n:Nat} {fn:Func} {tmps:Array Value} {R:Ending→World→Prop} {n0:Nat} (P':World→Prop) (hP:∀ W D,n0 ≤ D→W.heap[D]?=some (.deferred (some []))→P' W→P' (W.putObj D (.deferred none)))
  (hend:∀ W,P' W→LeavesIn F n Tryz.prog fn tmps R [] .returning W):∀ (Ds:List Nat) (W:World),Marks n0 W Ds→P' W→LeavesInM F n Tryz.prog fn tmps R (Ds.map mark) .returning W
 | [],W,_,hW=>hend W hW
 | D :: Ds,W,hm,hW=>by
  obtain ⟨h1,h2⟩:=hm.at_ D (by simp)
  have hnd:=List.nodup_cons.1 hm.nd
  refine ⟨by simp,.inl ⟨D,_,rfl,run_takeDeferred h2,leaves_all P' hP hend Ds _ ⟨hnd.2,fun D' hD'=>?_⟩ (hP W D h1 h2 hW)⟩⟩
  obtain ⟨h3,h4⟩:=hm.at_ D' (by simp [hD'])
  exact ⟨h3,(World.putObj_heap_other (fun e=>hnd.1 (by rw [← e];exact hD'))).trans h4⟩
theorem Marks.grown {n0:Nat} {W W':World} {Ds:List Nat} (h:Marks n0 W Ds) (hg:W.grownBy W' none):Marks n0 W' Ds:=
 ⟨h.nd,fun D hD=>by
  obtain ⟨h1,h2⟩:=h.at_ D hD
  exact ⟨h1,(hg.block D (lt_of h2) (by simp)).trans h2⟩⟩
theorem Marks.cons {n0:Nat} {W:World} {Ds:List Nat} {D:Nat} (h:Marks n0 W Ds) (hD:W.heap[D]?=some (.deferred (some []))) (hn:n0 ≤ D) (hlt:∀ D' ∈ Ds,D' < D):Marks n0 W (D :: Ds):=
 ⟨List.nodup_cons.2 ⟨fun hm=>Nat.lt_irrefl _ (hlt D hm),h.nd⟩,fun D' hD'=>by
  rcases List.mem_cons.1 hD' with rfl | hm
  ·exact ⟨hn,hD⟩
  ·exact h.at_ D' hm⟩
section
variable {w W W':World} {h:Nat} {c:Cfg} {F F':Ft} {H H':Hm}
theorem HomeAt.not_def (A:HomeAt W h c F H) {D:Nat} {x:Option (List Deferred)} (hD:W.heap[D]?=some (.deferred x)):¬ F.own D∧D ≠ h∧D ≠ F.mb:=by
 refine ⟨?_,(fun e=>by rw [e,A.blk] at hD;cases hD),(fun e=>by rw [e,A.mem.blk] at hD;cases hD)⟩
 rintro (e | e | e | e | e)
 ·obtain ⟨_,hb⟩:=A.mtype D e;rw [hb] at hD;cases hD
 ·obtain ⟨_,hb⟩:=A.ent.type D e;rw [hb] at hD;cases hD
 ·obtain ⟨es,ck,hb,_⟩:=A.und;rw [e,hb] at hD;cases hD
 ·rw [e,A.pool.blk] at hD;cases hD
 ·obtain ⟨_,hb⟩:=A.pool.sl.type D e;rw [hb] at hD;cases hD
theorem Marks.did {n0:Nat} {Ds:List Nat} (hm:Marks n0 W Ds) (A:HomeAt W h c F H) (hd:Did W W' F F'):Marks n0 W' Ds:=
 ⟨hm.nd,fun D hD=>by
  obtain ⟨h1,h2⟩:=hm.at_ D hD
  exact ⟨h1,hd.heap h2 (A.not_def h2).1⟩⟩
theorem HomeAt.rows (A:HomeAt W h c F H) {row:Option Nat} {B:Nat} (hub:F.ub < B) (hg:W.grownBy W' row) (hr:∀ r,row=some r→B ≤ r∧∃ o:Obj,W.heap[r]?=some o∧o.isCells=false):HomeAt W' h c F H:=
 A.keep fun i hi ho=>hg.block i hi (fun e=>by
  obtain ⟨hB,o,ho2,hc⟩:=hr i e.symm
  rcases ho with (e1 | e1 | e1 | e1 | e1) | e1 | e1 | ⟨cs,fr,e1⟩
  ·obtain ⟨_,hb⟩:=A.mtype i e1;rw [hb] at ho2;cases ho2;cases hc
  ·obtain ⟨_,hb⟩:=A.ent.type i e1;rw [hb] at ho2;cases ho2;cases hc
  ·omega
  ·rw [e1,A.pool.blk] at ho2;cases ho2;cases hc
  ·obtain ⟨_,hb⟩:=A.pool.sl.type i e1;rw [hb] at ho2;cases ho2;cases hc
  ·rw [e1,A.blk] at ho2;cases ho2;cases hc
  ·rw [e1,A.mem.blk] at ho2;cases ho2;cases hc
  ·rw [e1] at ho2;cases ho2;cases hc)
theorem putObj_grown (W:World) (D:Nat) (o:Obj):W.grownBy (W.putObj D o) (some D):=
 ⟨rfl,rfl,rfl,by simp [World.putObj],fun k _ hk=>World.putObj_heap_other (fun e=>hk (by rw [e]))⟩
structure EndAt (w:World) (h:Nat) (c:Cfg) (b B:Nat) (F:Ft) (W:World) (Fk:Ft) (Hk:Hm) (u:Value) (out:List Nt):Prop where
 home:HomeAt W h c Fk Hk
 box:Boxed W B 24 u
 row:NSl W u out
 new:∀ k,u.ownBlock=some k→w.heap.size ≤ k
 apart:∀ k,u.ownBlock=some k→¬ Fk.own k
 did:Did w W F Fk
 b0:W.heap[w.heap.size]?=some (.cells #[.pointer (some ⟨h,0,none⟩)] 33 (0,0))
 b1:W.heap[w.heap.size + 1]?=some (.cells #[.int .i64 (b:Int)] 3 (0,0))
 bnd:w.heap.size + 2 ≤ B
 ub:Fk.ub < w.heap.size
section
variable {b B:Nat} {Fk:Ft} {Hk:Hm} {u:Value} {out:List Nt}
theorem EndAt.rows (E:EndAt w h c b B F W Fk Hk u out) {row:Option Nat} {B0:Nat} (hB:w.heap.size ≤ B0) (hg:W.grownBy W' row) (hr:∀ r,row=some r→B0 ≤ r∧∃ o:Obj,W.heap[r]?=some o∧o.isCells=false):EndAt w h c b B F W' Fk Hk u out:=by
 have nb:∀ {i:Nat} {cs t fr},W.heap[i]?=some (.cells cs t fr)→W'.heap[i]?=some (.cells cs t fr):=fun {i} {cs} {t} {fr} hi=>(hg.block i (lt_of hi) (fun e=>by
  obtain ⟨_,o,ho,hc⟩:=hr i e.symm
  rw [hi] at ho;cases ho;cases hc)).trans hi
 exact ⟨E.home.rows (by have:=E.ub;omega) hg hr,nb E.box,E.row.own2 hg (fun r e=>(hr r e).2),E.new,E.apart,
  ⟨hg.os.trans E.did.os,hg.tape.trans E.did.tape,hg.output.trans E.did.output,Nat.le_trans E.did.size hg.size,fun i hi hn=>(hg.block i (Nat.lt_of_lt_of_le hi E.did.size) (fun e=>by have:=(hr i e.symm).1;omega)).trans (E.did.block i hi hn),E.did.mb,E.did.mv,E.did.ev,E.did.ub,E.did.pb,E.did.next⟩,
  nb E.b0,nb E.b1,E.bnd,E.ub⟩
theorem EndAt.grown (E:EndAt w h c b B F W Fk Hk u out) (hg:W.grownBy W' none):EndAt w h c b B F W' Fk Hk u out:=E.rows (Nat.le_refl _) hg (fun r e=>by cases e)
theorem EndAt.putD (E:EndAt w h c b B F W Fk Hk u out) {D:Nat} {x:Option (List Deferred)} (hD:W.heap[D]?=some (.deferred x)) (hw:w.heap.size ≤ D) (o:Obj):EndAt w h c b B F (W.putObj D o) Fk Hk u out:=
 E.rows hw (putObj_grown W D o) (fun r e=>by cases e;exact ⟨Nat.le_refl _,_,hD,rfl⟩)
end
def lenAt (W:World) (h:Nat):Nat:=
 match W.cell? ⟨h,4,none⟩ with
 | some (.pointer (some a))=>(match W.cell? a with | some (.slice _ n _)=>n | _=>0)
 | _=>0
theorem HomeAt.lenAt (A:HomeAt W h c F H):hh.lenAt W h=H.wt.length:=by
 unfold hh.lenAt
 obtain ⟨ad,cap,hv⟩:=A.pool.sl.form
 have:=A.pool.cell0
 rw [hv] at this
 simp only [A.cells.2.2.2.2,this]
theorem begin1_len (H:Hm) (n:Nt):(begin1 H n).2.length ≤ 33:=by
 unfold begin1
 split
 ·simp
 ·split
  ·unfold answer;split <;> simp
  ·rw [List.length_map,mm.ones_len]
   have:=pop_le (asked (enOf H n.b.toNat) n.k n.f).1 32
   omega
end
end Go.Proofs.YtenhdijbcdkfbaaGreatDoor.hh
namespace Go.Proofs.YtenhdijbcdkfbaaGreatDoor.hh
set_option linter.unusedVariables false
set_option linter.unusedSimpArgs false
set_option maxRecDepth 1000000
set_option maxHeartbeats 16000000
open Go Go.ChangeShapes Go.WideShapes Go.ChangeAt Go.RowKit
open Go.Proofs.YtenhdijbcdkfbaaGreatDoor.tt (Nt Cfg fits net bare zd usd uses coreOf ok_ends MapAt mput mdel ik NPool NSl Turn flat na nt zn grown_alloc grown_refl grown_trans tyne lt_of)
open Go.Proofs.YtenhdijbcdkfbaaGreatDoor.en (En gets back asked asks free ask_parts may_parts ea)
open Go.Proofs.YtenhdijbcdkfbaaGreatDoor.mm (wi wo ones wo_lt)
section
variable {w W W':World} {h:Nat} {c:Cfg} {F F':Ft} {H H':Hm}
theorem begin_any (A:HomeAt w h c F H) (n:Nt) (hn:Asks c n) (hT:mm.Tab w):Calls Tryz.prog 47 #[.pointer (some ⟨h,0,none⟩),.agg (na n)] w fun e w'=>∃ v,e = .returned v ∧
  HomeAt w' h c F (begin1 H n).1∧NSl w' v (begin1 H n).2∧Did w w' F F∧∀ k,v.ownBlock=some k→w.heap.size ≤ k:=by
 by_cases h3:n.k=3
 ·exact begin_put A n hn h3
 ·by_cases hw:(asked (enOf H n.b.toNat) n.k n.f).1=0
  ·exact begin_now A n hn hT h3 hw
  ·exact begin_ask A n hn hT h3 hw
def nbs (ws:List Nt) (b:Nat) (pre:List (Fin ws.length)):Prop:=∀ j ∈ pre,(ws.get j).b ≠ (b:Int)
theorem nbs_nil (ws:List Nt) (b:Nat):nbs ws b []:=fun j hj=>by cases hj
theorem nbs_snoc {ws:List Nt} {b:Nat} {pre:List (Fin ws.length)} (h:nbs ws b pre) {i:Fin ws.length} (hi:(ws.get i).b ≠ (b:Int)):nbs ws b (pre ++ [i]):=fun j hj=>by
 rcases List.mem_append.1 hj with hj | hj
 ·exact h j hj
 ·rw [List.mem_singleton.1 hj];exact hi
theorem nbs_all {ws:List Nt} {b:Nat} (h:nbs ws b (List.finRange ws.length)):∀ m ∈ ws,m.b ≠ (b:Int):=fun m hm=>by
 obtain ⟨k,hk⟩:=List.getElem?_of_mem hm
 obtain ⟨hl,he⟩:=List.getElem?_eq_some_iff.1 hk
 have:=h ⟨k,hl⟩ (List.mem_finRange _)
 rw [List.get_eq_getElem,he] at this
 exact this
theorem nbs_first {ws:List Nt} {b:Nat} {pre:List (Fin ws.length)} {i:Fin ws.length} (h:nbs ws b pre) (hp:pre ++ [i] <+: List.finRange ws.length):ws=ws.take i.val ++ ws.get i :: ws.drop (i.val + 1)∧(∀ m ∈ ws.take i.val,m.b ≠ (b:Int))∧ws.eraseIdx i.val=ws.take i.val ++ ws.drop (i.val + 1):=by
 have hl:pre.length < ws.length:=by
  have:=hp.length_le
  simp at this;omega
 have hi:(List.finRange ws.length)[pre.length]?=some i:=by
  obtain ⟨t,ht⟩:=hp
  rw [← ht];simp
 have hiv:i.val=pre.length:=by
  rw [List.getElem?_eq_getElem (by rw [List.length_finRange];exact hl)] at hi
  have:=Option.some.inj hi
  rw [← this,List.getElem_finRange];rfl
 have hpre:pre=(List.finRange ws.length).take pre.length:=by
  obtain ⟨t,ht⟩:=hp
  rw [← ht];simp
 refine ⟨by rw [List.get_eq_getElem,List.getElem_cons_drop,List.take_append_drop],fun m hm=>?_,List.eraseIdx_eq_take_drop_succ ..⟩
 obtain ⟨k,hk⟩:=List.getElem?_of_mem hm
 rw [List.getElem?_take] at hk
 by_cases hki:k < i.val
 ·rw [if_pos hki] at hk
  obtain ⟨hkl,he⟩:=List.getElem?_eq_some_iff.1 hk
  have:=h ⟨k,hkl⟩ (by
   rw [hpre]
   refine List.mem_of_getElem? (i:=k) ?_
   rw [List.getElem?_take,if_pos (by omega),List.getElem?_eq_getElem (by rw [List.length_finRange];exact hkl),List.getElem_finRange];rfl)
  rw [List.get_eq_getElem,he] at this
  exact this
 ·rw [if_neg hki] at hk;cases hk
theorem Did.keeps (A:HomeAt W h c F H) (hd:Did W W' F F') {B:Nat} (hB:F.ub < B):KeepsFrom B W W':=
 ⟨hd.size,fun k o hk ho hc=>(hd.block k (lt_of ho) (fun e=>by
  rcases e with e | e | e | e | e
  ·obtain ⟨_,hb⟩:=A.mtype k e;rw [hb] at ho;cases ho;cases hc
  ·obtain ⟨_,hb⟩:=A.ent.type k e;rw [hb] at ho;cases ho;cases hc
  ·omega
  ·rw [e,A.pool.blk] at ho;cases ho;cases hc
  ·obtain ⟨_,hb⟩:=A.pool.sl.type k e;rw [hb] at ho;cases ho;cases hc)).trans ho⟩
theorem types_ne {b B g:Nat} {out:List Nt} {u:Value} (hs:NSl W u out) (hu:u.ownBlock=some g) {i:Nat} {cs:Array Value} {t:TypeId} {fr:Nat × Nat} (hi:W.heap[i]?=some (.cells cs t fr)) (ht:t ≠ 45):i ≠ g:=by
 obtain ⟨cur,hb⟩:=hs.type g hu
 exact tyne hi hb ht
theorem EndAt.step {b B:Nat} {Fk F2:Ft} {Hk H2 H3:Hm} {u v:Value} {out new:List Nt} {X X2 X3:World} (E:EndAt w h c b B F X Fk Hk u out) (A2:HomeAt X2 h c F2 H2) (d2:Did X X2 Fk F2) (A3:HomeAt X3 h c F2 H3) (d3:Did X2 X3 F2 F2)
  (hv:NSl X3 v new) (hl:out.length + new.length ≤ 3000000) (n0:Nat) (Ds:List Nat) (hm:Marks n0 X Ds) :
  ∃ u' X4,(Builtin.append_ #[24,24] 24 #[u,v]).run Tryz.prog X3 = .ok u' X4∧X3.cell? ⟨B,0,none⟩=some u∧X4.cell? ⟨B,0,none⟩=some u∧X4.frozen? ⟨B,0,none⟩=false ∧
   EndAt w h c b B F (X4.setCell ⟨B,0,none⟩ u') F2 H3 u' (out ++ new)∧Marks n0 (X4.setCell ⟨B,0,none⟩ u') Ds∧∀ B0,Fk.ub < B0→KeepsFrom B0 X (X4.setCell ⟨B,0,none⟩ u'):=by
 obtain ⟨i0,hi,hz0,hz1,hz2⟩:=info_parts tt.infoN
 have dX:Did X X3 Fk F2:=d2.trans d3
 have ubx:¬ Fk.own B:=E.home.not_own E.box (by decide) (by decide) (by decide) (by decide)
 have bx3:Boxed X3 B 24 u:=dX.heap E.box ubx
 have row3:NSl X3 u out:=dX.sl E.row E.apart
 have ap3:∀ k,u.ownBlock=some k→¬ F2.own k:=fun k hk=>dX.own (E.row.lt k hk) (E.apart k hk)
 obtain ⟨u',X4,hap,r1,r2,r3⟩:=tt.run_append_sl (P:=Tryz.prog) X3 24 24 24 45 24 i0 (.agg (na zn)) 112 Tryz.underlying24 hi hz0 hz1 hz2 tt.zn_cells u out.length (flat nt out) row3 v new.length (flat nt new) (hv.src Tryz.underlying24 (tt.nflat_one new)) (by unfold maxLen;omega) (by omega)
 have hbu:∀ k,u.ownBlock=some k→B ≠ k:=fun k hk=>types_ne (b:=0) (B:=0) row3 hk bx3 (by decide)
 have hz:=r2.size
 have bx4:Boxed X4 B 24 u:=(r2.block B (lt_of bx3) (fun e=>hbu B e.symm rfl)).trans bx3
 have keep:∀ i,i < X3.heap.size→some i ≠ u.ownBlock→i ≠ B→(X4.setCell ⟨B,0,none⟩ u').heap[i]?=X3.heap[i]?:=fun i h1 h2 h3=>(Below.heap_setCell _ _ _ _ h3).trans (r2.block i h1 h2)
 have cellsk:∀ {i:Nat} {cs t fr},X3.heap[i]?=some (.cells cs t fr)→t ≠ 45→t ≠ 24→(X4.setCell ⟨B,0,none⟩ u').heap[i]?=some (.cells cs t fr):=fun {i} {cs} {t} {fr} hi h1 h2=>
  (keep i (lt_of hi) (fun e=>types_ne (b:=0) (B:=0) row3 e.symm hi h1 rfl) (tyne hi bx3 h2)).trans hi
 have hu':∀ k,u'.ownBlock=some k→(u.ownBlock=some k ∨ X3.heap.size ≤ k):=fun k hk=>by
  rcases r3 with h1 | h1
  ·exact .inl (h1 ▸ hk)
  ·exact .inr (h1 k hk)
 have A5:HomeAt (X4.setCell ⟨B,0,none⟩ u') h c F2 H3:=A3.keep fun i hi ho=>keep i hi (fun e=>by
   rcases ho with ho | ho | ho | ⟨cs,fr,ho⟩
   ·exact ap3 i e.symm ho
   ·exact types_ne (b:=0) (B:=0) row3 e.symm (ho ▸ A3.blk) (by decide) rfl
   ·exact types_ne (b:=0) (B:=0) row3 e.symm (ho ▸ A3.mem.blk) (by decide) rfl
   ·exact types_ne (b:=0) (B:=0) row3 e.symm ho (by decide) rfl) (fun e=>by
   rcases ho with ho | ho | ho | ⟨cs,fr,ho⟩
   ·exact (A3.not_own bx3 (by decide) (by decide) (by decide) (by decide)) (e ▸ ho)
   ·exact tyne (ho ▸ A3.blk) bx3 (by decide) e
   ·exact tyne (ho ▸ A3.mem.blk) bx3 (by decide) e
   ·exact tyne ho bx3 (by decide) e)
 have hBw:w.heap.size + 2 ≤ B:=E.bnd
 have b03:X3.heap[w.heap.size]?=some (.cells #[.pointer (some ⟨h,0,none⟩)] 33 (0,0)):=dX.heap E.b0 (E.home.not_own E.b0 (by decide) (by decide) (by decide) (by decide))
 have b13:X3.heap[w.heap.size + 1]?=some (.cells #[.int .i64 (b:Int)] 3 (0,0)):=dX.heap E.b1 (E.home.not_own E.b1 (by decide) (by decide) (by decide) (by decide))
 have hsz:(X4.setCell ⟨B,0,none⟩ u').heap.size=X4.heap.size:=by simp [World.setCell]
 have dw:=E.did.trans dX
 refine ⟨u',X4,hap,bx3.cell,bx4.cell,bx4.frozen,⟨A5,bx4.set u',?_,fun k hk=>?_,fun k hk=>?_,⟨r2.os.trans dw.os,r2.tape.trans dw.tape,r2.output.trans dw.output,by rw [hsz];exact Nat.le_trans dw.size hz,fun i hi hn=>?_,dw.mb,dw.mv,dw.ev,dw.ub,dw.pb,?_⟩,cellsk b03 (by decide) (by decide),cellsk b13 (by decide) (by decide),hBw,by rw [dX.ub];exact E.ub⟩,⟨hm.nd,fun D hD=>?_⟩,fun B0 hB0=>?_⟩
 ·show tt.Sl _ _ 24 u' (out ++ new).length (flat nt (out ++ new))
  rw [tt.flat_append,List.length_append]
  exact r1.of_block fun g hg=>Below.heap_setCell _ _ _ _ (show g ≠ B from fun e=>by
   rcases hu' g hg with h1 | h1
   ·exact hbu g h1 e.symm
   ·have:=lt_of bx3;omega)
 ·rcases hu' k hk with h1 | h1
  ·exact E.new k h1
  ·have:=dw.size;omega
 ·rcases hu' k hk with h1 | h1
  ·exact ap3 k h1
  ·exact fun e=>by have:=A3.own_lt e;omega
 ·rw [keep i (Nat.lt_of_lt_of_le hi dw.size) (fun e=>by have:=E.new i e.symm;omega) (by omega)]
  exact dw.block i hi hn
 ·rcases dw.next with h1 | h1
  ·exact .inl h1
  ·exact .inr h1
 ·obtain ⟨h1,h2⟩:=hm.at_ D hD
  have h3:=dX.heap h2 (E.home.not_def h2).1
  refine ⟨h1,(keep D (lt_of h3) (fun e=>?_) (fun e=>?_)).trans h3⟩
  ·obtain ⟨cur,hc⟩:=row3.type D e.symm;rw [hc] at h3;cases h3
  ·rw [e,show X3.heap[B]?=_ from bx3] at h3;cases h3
 ·have k1:=dX.keeps E.home hB0
  refine ⟨by rw [hsz];exact Nat.le_trans k1.size hz,fun k o hk ho hc=>?_⟩
  have h3:=k1.same k o hk ho hc
  refine (keep k (lt_of h3) (fun e=>?_) (fun e=>?_)).trans h3
  ·obtain ⟨cur,hcc⟩:=row3.type k e.symm;rw [hcc] at h3;cases h3;cases hc
  ·rw [e,show X3.heap[B]?=_ from bx3] at h3;cases h3;cases hc
end
end Go.Proofs.YtenhdijbcdkfbaaGreatDoor.hh
namespace Go.Proofs.YtenhdijbcdkfbaaGreatDoor.hh
set_option linter.unusedVariables false
set_option linter.unusedSimpArgs false
set_option maxRecDepth 1000000
set_option maxHeartbeats 16000000
open Go Go.ChangeShapes Go.WideShapes Go.ChangeAt Go.RowKit
open Go.Proofs.YtenhdijbcdkfbaaGreatDoor.tt (Nt Cfg fits net bare zd usd uses coreOf ok_ends MapAt mput mdel ik NPool NSl Turn flat na nt zn grown_alloc grown_refl grown_trans tyne lt_of)
open Go.Proofs.YtenhdijbcdkfbaaGreatDoor.en (En gets back asked asks free ask_parts may_parts ea)
open Go.Proofs.YtenhdijbcdkfbaaGreatDoor.mm (wi wo ones wo_lt)
theorem want_append {F:Fence} {n:Nat} {P:Program} {md:Region.Mode} {ops:Array Oper} {Q:Exit→Act→World→Prop} {fuel:Nat} {listed:Array Bool} {a:Act} {w:World} {i:Nat} {o:Oper} {rs:List Nat} (t:TypeId) (x y:Operand) (ho:ops[i]?=some o) (hgd:o.guard=none)
  (hop:o.op = .call { callee:= .builtin .append,args:=#[x,y],argTypes:=#[t,t] }) (u v u':Value) (X4:World) (hu:a.eval x=u) (hv:a.eval y=v) (hap:(Builtin.append_ #[t,t] o.type #[u,v]).run P w = .ok u' X4)
  (h:wpAnyIn F n P md ops Q fuel (listed.setIfInBounds i true) (a.put o.dst u') X4) (hs:AllReadyIn F n P md ops Q fuel listed a w rs):AllReadyIn F n P md ops Q fuel listed a w (i :: rs):=
 AllReadyIn.cons ho (fun K hK=>by
  have hw:Region.wanted o (yielded ops a.tmps)=true:=by simp [Region.wanted,hgd]
  rw [if_pos hw]
  unfold Oper.wpIn
  refine ⟨?_,?_⟩
  ·simp [Oper.about,hop,resolve,Target.leads,Sem.run_pure]
  ·rw [Oper.semAt_plain F _ _ (by rw [hop];intro c hc';cases hc')]
   simp [execOp,hop,resolve,invoke,builtin,hu,hv,hap,Result.andThen]
   exact hK _ _ h) hs
attribute [local go_sem] Oper.semAt_some
attribute [local simp] tt.wide_fn
section
variable {w:World} {h:Nat} {c:Cfg} {F:Ft} {H:Hm}
theorem end_any (A:HomeAt w h c F H) (b:Nat) (hb:b < c.data.toNat) (hT:mm.Tab w):Calls Tryz.prog 45 #[.pointer (some ⟨h,0,none⟩),.int .i64 (b:Int)] w fun e w'=>∃ F' v,e = .returned v ∧
  HomeAt w' h c F' (fin H b).1∧NSl w' v (fin H b).2∧Did w w' F F'∧∀ k,v.ownBlock=some k→w.heap.size ≤ k∧¬ F'.own k:=by
 obtain ⟨wb,hwb⟩:∃ wb,(w.alloc (.cells #[.pointer (some ⟨h,0,none⟩)] 33)).alloc (.cells #[.int .i64 (b:Int)] 3)=wb:=⟨_,rfl⟩
 have hgb:w.grownBy wb none:=by rw [← hwb];exact grown_alloc (grown_alloc (grown_refl _ _) _) _
 have hsb:wb.heap.size=w.heap.size + 2:=by rw [← hwb];simp
 have HAB:=qh (A.grown hgb)
 have hb0:wb.heap[w.heap.size]?=some (.cells #[.pointer (some ⟨h,0,none⟩)] 33 (0,0)):=by rw [← hwb];exact (Below.heap_alloc _ _ _ (by simp)).trans (heap_alloc_new _ _)
 have hb1:wb.heap[w.heap.size + 1]?=some (.cells #[.int .i64 (b:Int)] 3 (0,0)):=by rw [← hwb];exact heap_new2 _ _ _ _
 have HB0:=qh hb0
 have HB1:=qh hb1
 have HSB:=qh hsb
 have HG:=qh hgb
 have HOL:Hid (∀ i,F.own i→i < w.heap.size):=qh fun i hi=>A.own_lt hi
 have HOH:=qh A.h_own
 have HCF:Hid (∀ w':World,(w'.heap[h]?=some (.cells #[.int .i64 c.co,.pointer (some ⟨F.mb,0,none⟩),F.ev,.map (some F.ub),.pointer (some ⟨F.pb,0,none⟩)] 88 (0,0))∧w'.heap[w.heap.size]?=some (.cells #[.pointer (some ⟨h,0,none⟩)] 33 (0,0))∧w'.heap[w.heap.size + 1]?=some (.cells #[.int .i64 (b:Int)] 3 (0,0)))→w'.cell? ⟨h,3,none⟩=some (.map (some F.ub))∧w'.cell? ⟨w.heap.size,0,none⟩=some (.pointer (some ⟨h,0,none⟩))∧w'.cell? ⟨w.heap.size + 1,0,none⟩=some (.int .i64 (b:Int))):=qh fun w' ⟨e1,e2,e3⟩=>⟨cr e1 3 rfl,cr e2 0 rfl,cr e3 0 rfl⟩
 have HKP:Hid (∀ w1 w2:World,Did w1 w2 F F→(w1.heap[h]?=some (.cells #[.int .i64 c.co,.pointer (some ⟨F.mb,0,none⟩),F.ev,.map (some F.ub),.pointer (some ⟨F.pb,0,none⟩)] 88 (0,0))∧w1.heap[w.heap.size]?=some (.cells #[.pointer (some ⟨h,0,none⟩)] 33 (0,0))∧w1.heap[w.heap.size + 1]?=some (.cells #[.int .i64 (b:Int)] 3 (0,0)))→(w2.heap[h]?=some (.cells #[.int .i64 c.co,.pointer (some ⟨F.mb,0,none⟩),F.ev,.map (some F.ub),.pointer (some ⟨F.pb,0,none⟩)] 88 (0,0))∧w2.heap[w.heap.size]?=some (.cells #[.pointer (some ⟨h,0,none⟩)] 33 (0,0))∧w2.heap[w.heap.size + 1]?=some (.cells #[.int .i64 (b:Int)] 3 (0,0)))):=qh fun w1 w2 d ⟨e1,e2,e3⟩=>⟨d.heap e1 HOH.out,d.heap e2 (fun e=>by have:=HOL.out _ e;omega),d.heap e3 (fun e=>by have:=HOL.out _ e;omega)⟩
 have HIJ:Hid (Inv c { H with jb:=H.jb.set b none }):=qh (A.inv.job b none fun j e=>by cases e)
 have HOJ:Hid (∀ (b':Nat) (j':Jb),(H.jb.set b none)[b']?=some (some j')→j'.d=decide (j'.w=0)):=qh (ok_none A.ok b)
 have HFL:Hid (H.wt.length ≤ 65536):=qh (by have:=A.full;have:=(room_le A.inv.may).2.1;omega)
 have HTT:=qh hT
 have HUB:=qh A.und.lt
 have HLOW:=qh A.low
 have HBC:Hid (b < c.data.toNat):=qh hb
 clear A hgb hb0 hb1 hsb hT hb
 refine (callsIn_wide (n:=9)).1 ?_
 refine callsIn_of_wp_marks Tryz.func45 rfl trivial ?_ rfl
 simp only [Tryz.ntmps45,List.size_toArray,List.length_cons,List.length_nil,Nat.reduceAdd,Nat.reduceSub,Array.replicate_succ,Array.replicate_zero,List.push_toArray,List.append_toArray,List.nil_append,List.cons_append]
 refine wpIn_calm ?_
 refine wpIn_wide.2 ?_
 go_wp2_with fail
 refine wp_scope_straight ?_
 go_wp2_with fail
 refine wp_region_held_drew (S:=fun w'=>w'.heap[h]?=some (.cells #[.int .i64 c.co,.pointer (some ⟨F.mb,0,none⟩),F.ev,.map (some F.ub),.pointer (some ⟨F.pb,0,none⟩)] 88 (0,0))∧w'.heap[w.heap.size]?=some (.cells #[.pointer (some ⟨h,0,none⟩)] 33 (0,0))∧w'.heap[w.heap.size + 1]?=some (.cells #[.int .i64 (b:Int)] 3 (0,0))) (by kernel_rfl) ⟨HAB.out.blk,HB0.out,HB1.out⟩ (fun hHeld=>?_)
 have hAd:=HAB.out.grown (tt.grown_drew (grown_refl wb none))
 have hGd:=tt.grown_drew HG.out
 generalize wb.drew=wd at hAd hGd hHeld ⊢
 refine tl 0 ?_ rfl ?_ ?_ (tl 1 ?_ rfl ?_ ?_ (tl 2 ?_ rfl ?_ ?_ (tl 3 ?_ rfl ?_ ?_ (tl 4 ?_ rfl ?_ ?_ ?_))))
 iterate 5 (rotate_left;(next=>(try simp only [lay]);((intro w0 hSw;obtain ⟨hs0,hs1,hs2⟩:=HCF.out w0 hSw;go_simp);try (with_reducible rfl)));next=>rfl)
 try simp only [lay]
 obtain ⟨w2,hdl,hM2,hg2⟩:=tt.run_delete_map Tryz.underlying86 Tryz.underlying3 hAd.und (b:Int) 0
 have hd1:Did wd w2 F F:=Did.of_own hg2 fun i e=> .inr (.inr (.inl (Option.some.inj e).symm))
 have HF2:=qh (HKP.out _ _ hd1 hHeld)
 have HA2:=qh (hAd.setUnd hM2 hg2 (fun k=>und_del k) HIJ.out HOJ.out)
 have HD2:=qh ((Did.of_grown F hGd).trans hd1)
 clear hAd hGd hM2 hg2 hd1
 refine rd 5 rfl fun K hK=>?_
 go_simp
 refine hK.out _ _ HF2.out (fun hHeld=>?_)
 clear hK K
 try simp only [lay]
 refine wpAnyH_done (by kernel_rfl) ?_ _
 clear hHeld hdl
 go_wp2_with fail
 go_step3
 go_wp2_with fail
 obtain ⟨BO,hBO⟩:∃ B,w2.heap.size=B:=⟨_,rfl⟩
 have hw2l:=HD2.out.size
 have HE0:Hid (EndAt w h c b BO F (w2.alloc (.cells #[.slice none 0 0] 24)) F { H with jb:=H.jb.set b none } (.slice none 0 0) []):=qh
  ⟨HA2.out.grown (grown_alloc (grown_refl _ _) _),by rw [← hBO];exact heap_alloc_new _ _,tt.Sl.nil _ _ _,(fun k hk=>by simp [Value.ownBlock] at hk),(fun k hk=>by simp [Value.ownBlock] at hk),
   HD2.out.trans (Did.of_grown F (grown_alloc (grown_refl _ _) _)),(Below.heap_alloc _ _ _ (lt_of HF2.out.2.1)).trans HF2.out.2.1,(Below.heap_alloc _ _ _ (lt_of HF2.out.2.2)).trans HF2.out.2.2,(by have:=lt_of HF2.out.2.2;omega),HUB.out⟩
 have HS3:Hid ((w2.alloc (.cells #[.slice none 0 0] 24)).heap.size=BO + 1):=qh (by rw [← hBO];simp)
 have HWB:Hid (w.heap.size + 2 ≤ BO):=qh HE0.out.bnd
 rw [hBO]
 obtain ⟨w3,hw3⟩:∃ w3,w2.alloc (.cells #[.slice none 0 0] 24)=w3:=⟨_,rfl⟩
 rw [hw3] at HE0 HS3 ⊢
 clear hBO hw2l hw3 HF2 HA2 HD2 hwb HKP HCF
 refine wp_loop (fun a' W=>∃ (u6 u7 u8 u9 u10 u11 u12 u13 u14 u15 u16 u17 u18 u19 u20 u21 u22 u23 u24 u25 u26 u27 u28 u29 u30 u31 u32 u33 u34 u35 u36 u37 u38 u39:Value) (Ds:List Nat),(∃ Fk Hk u out,EndAt w h c b BO F W Fk Hk u out∧Marks (BO + 1) W Ds∧fin H b=((run b Hk [] Hk.wt).1,out ++ (run b Hk [] Hk.wt).2)∧out.length + 33 * Hk.wt.length ≤ 33 * 65536)∧a'={ tmps:=#[.pointer (some ⟨h,0,none⟩),.int .i64 (b:Int),.pointer (some ⟨w.heap.size,0,none⟩),.pointer (some ⟨w.heap.size + 1,0,none⟩),.slice none 0 0,.pointer (some ⟨BO,0,none⟩),u6,u7,u8,u9,u10,u11,u12,u13,u14,u15,u16,u17,u18,u19,u20,u21,u22,u23,u24,u25,u26,u27,u28,u29,u30,u31,u32,u33,u34,u35,u36,u37,u38,u39],defers:=Ds.map mark }) (fun _ W=>lenAt W h) ?_ ?_
 ·exact ⟨_,_,_,_,_,_,_,_,_,_,_,_,_,_,_,_,_,_,_,_,_,_,_,_,_,_,_,_,_,_,_,_,_,_,[],⟨F,_,_,[],HE0.out,⟨List.nodup_nil,fun D hD=>by cases hD⟩,by rw [List.nil_append];rfl,by have:=HFL.out;show 0 + 33 * H.wt.length ≤ _;omega⟩,rfl⟩
 intro a' wr hinv
 obtain ⟨u6,hinv⟩:=hinv
 obtain ⟨u7,hinv⟩:=hinv
 obtain ⟨u8,hinv⟩:=hinv
 obtain ⟨u9,hinv⟩:=hinv
 obtain ⟨u10,hinv⟩:=hinv
 obtain ⟨u11,hinv⟩:=hinv
 obtain ⟨u12,hinv⟩:=hinv
 obtain ⟨u13,hinv⟩:=hinv
 obtain ⟨u14,hinv⟩:=hinv
 obtain ⟨u15,hinv⟩:=hinv
 obtain ⟨u16,hinv⟩:=hinv
 obtain ⟨u17,hinv⟩:=hinv
 obtain ⟨u18,hinv⟩:=hinv
 obtain ⟨u19,hinv⟩:=hinv
 obtain ⟨u20,hinv⟩:=hinv
 obtain ⟨u21,hinv⟩:=hinv
 obtain ⟨u22,hinv⟩:=hinv
 obtain ⟨u23,hinv⟩:=hinv
 obtain ⟨u24,hinv⟩:=hinv
 obtain ⟨u25,hinv⟩:=hinv
 obtain ⟨u26,hinv⟩:=hinv
 obtain ⟨u27,hinv⟩:=hinv
 obtain ⟨u28,hinv⟩:=hinv
 obtain ⟨u29,hinv⟩:=hinv
 obtain ⟨u30,hinv⟩:=hinv
 obtain ⟨u31,hinv⟩:=hinv
 obtain ⟨u32,hinv⟩:=hinv
 obtain ⟨u33,hinv⟩:=hinv
 obtain ⟨u34,hinv⟩:=hinv
 obtain ⟨u35,hinv⟩:=hinv
 obtain ⟨u36,hinv⟩:=hinv
 obtain ⟨u37,hinv⟩:=hinv
 obtain ⟨u38,hinv⟩:=hinv
 obtain ⟨u39,hinv⟩:=hinv
 obtain ⟨Ds,⟨Fk,Hk,u,out,E,hmk,hpure,hlen⟩,ha⟩:=hinv
 subst ha
 try dsimp only
 obtain ⟨ad,cap,hu⟩:=E.row.form
 obtain ⟨ln,hln⟩:∃ l,l=out.length:=⟨_,rfl⟩
 rw [← hln] at hu
 subst hu
 have HLN:=qh hln
 have HMK:=qh hmk
 have HPU:=qh hpure
 have HLE:=qh hlen
 obtain ⟨ds,hds⟩:∃ ds,ds=Ds.map mark:=⟨_,rfl⟩
 have HDS:=qh hds
 rw [← hds]
 have HBZ:=qh (busy_any E.home b)
 have c2:=cr E.b0 0 rfl
 have c3:=cr E.b1 0 rfl
 have HEE:=qh E
 have HBS:Hid (BO + 1 ≤ wr.heap.size):=qh (lt_of E.box)
 have HLV:Hid (∀ (Ds:List Nat) (W:World) (tm:Array Value),EndAt w h c b BO F W Fk Hk (.slice ad ln cap) out→(∀ m ∈ Hk.wt,m.b ≠ (b:Int)) ∨ (jbOf Hk b).isSome=true→Marks (BO + 1) W Ds→tm.getD 4 undef = .slice ad ln cap →
   bodyPostM Fence.wide 9 Tryz.prog Tryz.f45 (fun e w'=>∃ F' v,e = .returned v∧HomeAt w' h c F' (fin H b).1∧NSl w' v (fin H b).2∧Did w w' F F'∧∀ k,v.ownBlock=some k→w.heap.size ≤ k∧¬ F'.own k) .ret { tmps:=tm,defers:=Ds.map mark } W):=qh fun Ds W tm EW hend hm h4=>by
  have hf:fin H b=(Hk,out):=by rw [HPU.out,run_end b Hk hend];simp
  rw [hf]
  refine leaves_all (n0:=BO + 1) (fun X=>EndAt w h c b BO F X Fk Hk (.slice ad ln cap) out) (fun X D hD hX hE=>hE.putD hX (by have:=HWB.out;omega) _) (fun X hE=>?_) Ds W hm EW
  exact ⟨_,results_tmp rfl _ _ _,Fk,.slice ad ln cap,by rw [← h4],hE.home,hE.row,hE.did,fun k hk=>⟨hE.new k hk,hE.apart k hk⟩⟩
 clear E hmk hpure hlen hln hds HE0
 cases hj:jbOf Hk b with
 | some j0=>
  have hjs:(jbOf Hk b).isSome=true:=by rw [hj];rfl
  rw [hj] at HBZ
  have HJS:=qh hjs
  clear hj hjs
  go_wp2_with (go_at_call 18;((with_reducible refine HBZ.out.mono ?_);rintro e w9 ⟨rfl,hg9⟩;have HG9:=qh hg9;have c9:=(show w9.heap[BO]?=_ from (HEE.out.grown hg9).box);have c9':=cr c9 0 rfl;clear hg9 c9))
  rw [Exit.noGoto_ret,HDS.out]
  exact calm_ret (HLV.out Ds w9 _ (HEE.out.grown HG9.out) (.inr HJS.out) (HMK.out.grown HG9.out) rfl)
 | none=>
  rw [hj] at HBZ
  have HJN:=qh hj
  clear hj
  go_wp2_with (first
   | (go_at_call 18;((with_reducible refine HBZ.out.mono ?_);rintro e w9 ⟨rfl,hg9⟩;have HG9:=qh hg9;have c9:=cr (HEE.out.grown hg9).b0 0 rfl;have c10:=cr (HEE.out.grown hg9).home.blk 4 rfl;clear hg9))
   | (go_at_call 72;((with_reducible refine (callsIn_wide.1 (tt.pall_in 9 _ _)).mono ?_);rintro e w' ⟨rfl,rfl⟩)))
  obtain ⟨wI,hwI⟩:∃ wI,w9.alloc (.cells #[.pointer (some ⟨Fk.pb,0,none⟩)] 80)=wI:=⟨_,rfl⟩
  have hgI:wr.grownBy wI none:=by rw [← hwI];exact grown_alloc HG9.out _
  have hic:wI.cell? ⟨w9.heap.size,0,none⟩=some (.pointer (some ⟨Fk.pb,0,none⟩)):=by rw [← hwI];exact cr (heap_alloc_new _ _) 0 rfl
  have hiz:wI.heap.size=w9.heap.size + 1:=by rw [← hwI];simp
  have EI:=HEE.out.grown hgI
  have hmI:=HMK.out.grown hgI
  have hnl:Hk.wt.length ≤ 65536:=by have:=HLE.out;omega
  have HEI:=qh EI
  have HMI:=qh hmI
  have HNL:=qh hnl
  have HDL:Hid (∀ D ∈ Ds,D < wI.heap.size):=qh fun D hD=>lt_of (hmI.at_ D hD).2
  have HVL:Hid (∀ k,Fk.pv.ownBlock=some k→k < wI.heap.size):=qh EI.home.pool.sl.lt
  have HWI:Hid (w.heap.size ≤ wI.heap.size):=qh EI.did.size
  have HUI:Hid (Fk.ub < wI.heap.size):=qh (by have:=EI.ub;have:=HWI.out;omega)
  have HBI:Hid (BO + 1 ≤ wI.heap.size):=qh (lt_of EI.box)
  have HTI:Hid (∀ X,EndAt w h c b BO F X Fk Hk (.slice ad ln cap) out→mm.Tab X):=qh fun X E=>(E.did.tabs HLOW.out).1 HTT.out
  have HZ:Hid (na zn=_):=qh (tt.bare_na 0 0 0 0 0 0 false false)
  have hmo:Tryz.prog.follows .mixedOrders=true:=by kernel_rfl
  rw [hwI]
  clear hwI hgI EI hmI c9 c10 c2 c3 HBZ
  refine (wpIn_wide (n:=9)).1 ?_
  apply tt.range_frB (fun (i:Fin Hk.wt.length) (B:Nat) (t:Array Value)=>(((t.setIfInBounds 22 (.int .i64 (i.val:Int))).setIfInBounds 23 (.agg (na (Hk.wt.get i)))).setIfInBounds 6 (.int .i64 (i.val:Int))).setIfInBounds 7 (.pointer (some ⟨B,0,none⟩))) (fun i=>na (Hk.wt.get i)) 45 rfl (by omega) (gf:=95) (lb:=#[.pointer (some ⟨w9.heap.size,0,none⟩)]) rfl trivial (enters_of Tryz.func95 (by kernel_rfl) rfl)
   (Kp:=tt.Same Fk.pv) (tt.pall_fin 8 (by omega) w9.heap.size Fk.pb Fk.pv (room c) Hk.wt wI HEI.out.home.pool hnl hic) (fun {A B C} h k=>tt.Same.trans h k) (tt.Same.put HVL.out) (Below.refl _ _) (fun _=>rfl)
   (fun pre X=>nbs Hk.wt b pre∧Below wI.heap.size wI X)
   (fun cc ys X=>cc = .exit 1∧∃ pre i F3 u3,ys=pre ++ [i]∧nbs Hk.wt b pre∧(Hk.wt.get i).b=(b:Int)∧EndAt w h c b BO F X F3 (begin1 { Hk with wt:=Hk.wt.eraseIdx i.val } (Hk.wt.get i)).1 u3 (out ++ (begin1 { Hk with wt:=Hk.wt.eraseIdx i.val } (Hk.wt.get i)).2)∧Marks (BO + 1) X Ds)
   (OwnFrom.and (fun s A B row hs hg hr=>hs) (ownFrom_below (Nat.le_refl _) (Nat.le_refl _)))
   (fun c' s A B row ⟨e0,pre,i,F3,u3,e1,e2,e3,E3,hm3⟩ hg hr=>⟨e0,pre,i,F3,u3,e1,e2,e3,E3.rows HWI.out hg hr,⟨hm3.nd,fun D hD=>⟨(hm3.at_ D hD).1,(hg.block D (lt_of (hm3.at_ D hD).2) (fun e=>by have:=(hr D e.symm).1;have:=HDL.out D hD;omega)).trans (hm3.at_ D hD).2⟩⟩⟩)
   ⟨nbs_nil _ _,Below.refl _ _⟩
  case hassign=>
   rintro l' pre i X K ⟨h1,hbl⟩ hK
   have hgx:X.grownBy (X.alloc (.cells (na (Hk.wt.get i)) 45)) none:=grown_alloc (grown_refl _ _) _
   have HK:=qh (hK X.heap.size (X.alloc (.cells (na (Hk.wt.get i)) 45)) hbl.size (heap_alloc_new _ _) ((KeepsOthers.alloc _ _).from _) (tt.Same.of_grown (fun k hk=>Nat.lt_of_lt_of_le (HVL.out k hk) hbl.size) hgx) ⟨h1,hbl.alloc hbl.size _⟩)
   try simp only [List.setIfInBounds_toArray,List.set_cons_zero,List.set_cons_succ] at HK
   clear hK h1 hbl hgx
   unfold tt.encF
   generalize (Hk.wt.get i)=x at HK ⊢
   gi_wp2_with ((with_reducible refine tt.store_newI x _ HZ.out _ _ ?_ ?_ ?_);(rfl);(rfl))
   exact HK.out
  case hbody=>
   rintro l' pre i B X hl' ⟨h1,hbl⟩ hB hbx hlt
   simp only [List.setIfInBounds_toArray,List.set_cons_zero,List.set_cons_succ]
   have hgX:wI.grownBy X none:=⟨hbl.os,hbl.tape,hbl.output,hbl.size,fun k hk _=>hbl.block k hk⟩
   have EX:=HEI.out.grown hgX
   have hmX:=HMI.out.grown hgX
   have d3:=cr EX.b1 0 rfl
   have d2:=cr EX.b0 0 rfl
   have d4:=cr EX.home.blk 4 rfl
   have hbr:=tt.range_of hbx
   have n3:=tt.cell_at hbr 3 _ rfl
   have HX1:=qh h1
   have HXB:=qh hbl
   have HEX:=qh EX
   have HMX:=qh hmX
   have HBX:=qh hbx
   have HBB:Hid (wI.heap.size ≤ B):=qh hB
   have hit:Hk.wt[i.val]?=some (Hk.wt.get i):=List.getElem?_eq_getElem i.isLt
   have HIT:=qh hit
   have HAX:Hid (Asks c (Hk.wt.get i)):=qh (EX.home.inv.wait _ (List.getElem_mem i.isLt))
   have HTK:Hid _:=qh (tt.ptake_in Fk.pb Fk.pv (room c) Hk.wt i.val (Hk.wt.get i) X EX.home.pool hit hnl)
   obtain ⟨x,hx⟩:∃ x,x=(Hk.wt.get i):=⟨_,rfl⟩
   have HXX:=qh hx
   rw [← hx] at HTK HAX n3 HBX HIT ⊢
   clear h1 hbl hgX EX hmX hbx hbr hB hlt hl' hit hx hnl
   by_cases hxb:x.b=(b:Int)
   ·have ex:(x.b == (b:Int))=true:=by simpa using hxb
    have HXE:=qh hxb
    clear hxb
    gi_wp2_with (gi_at_call 73;((with_reducible refine (CallsIn.inRound l' (callsIn_wide.2 HTK.out)).mono ?_);rintro e X2 ⟨rfl,v',hP2,hT2⟩;have HP2:=qh hP2;have HT2:=qh hT2;clear hP2 hT2))
    have hInv2:Inv c { Hk with wt:=Hk.wt.eraseIdx i.val }:=HEX.out.home.inv.waits _ fun m hm=>HEX.out.home.inv.wait m (List.mem_of_mem_eraseIdx hm)
    have hfull2:(Hk.wt.eraseIdx i.val).length ≤ room c:=Nat.le_trans (List.length_eraseIdx_le _ _) HEX.out.home.full
    have A2:=HEX.out.home.setPool HP2.out HT2.out hInv2 hfull2
    have A2d:=A2.grown (tt.grown_drew (grown_refl X2 none))
    have D2d:Did X X2.drew Fk { Fk with pv:=v' }:=(Did.of_turn HT2.out).trans (Did.of_grown _ (tt.grown_drew (grown_refl X2 none)))
    have hbo:X2.drew.cell? ⟨BO,0,none⟩=some (.slice ad ln cap):=cr (D2d.heap HEX.out.box (HEX.out.home.not_own HEX.out.box (by decide) (by decide) (by decide) (by decide))) 0 rfl
    have hb0:X2.drew.cell? ⟨w.heap.size,0,none⟩=some (.pointer (some ⟨h,0,none⟩)):=cr (D2d.heap HEX.out.b0 (HEX.out.home.not_own HEX.out.b0 (by decide) (by decide) (by decide) (by decide))) 0 rfl
    have hbB:X2.drew.heap[B]?=some (.cells (na x) 45 (0,0)):=D2d.heap HBX.out (fun e=>by have:=HEI.out.home.own_lt e;have:=HBB.out;omega)
    obtain ⟨t',mm,HTT,hagg,hsize,hld⟩:=tt.named
    have hlx:=hld B x X2.drew (tt.range_of hbB)
    have HBG:Hid _:=qh (begin_any A2d x HAX.out ((D2d.tabs HEX.out.home.low).1 (HTI.out X HEX.out)))
    have HA2D:=qh A2d
    have HD2D:=qh D2d
    have HLL:Hid (out.length + (begin1 { Hk with wt:=Hk.wt.eraseIdx i.val } x).2.length ≤ 3000000):=qh (by have:=begin1_len { Hk with wt:=Hk.wt.eraseIdx i.val } x;have:=HLE.out;omega)
    obtain ⟨rb,hrb⟩:∃ r,r=begin1 { Hk with wt:=Hk.wt.eraseIdx i.val } x:=⟨_,rfl⟩
    rw [← hrb] at HBG HLL
    have HRB:=qh hrb
    rw [HTT.out]
    clear hInv2 hfull2 A2 A2d D2d hbB hld hrb d2 d3 d4 n3 ex
    refine wpIn_region_any hmo ?_
    try (change wpAnyIn _ _ _ _ _ _ _ _ _ (World.drew _))
    refine wpAnyIn_ready (rs:=[0,1,2]) (by kernel_rfl) (by simp) ?_
    refine (AllReadyIn.cons rfl (fun K hK=>?_) (AllReadyIn.cons rfl (fun K hK=>?_) (AllReadyIn.cons rfl (fun K hK=>?_) AllReadyIn.nil)))
    ·skip
     go_simp
     first | (refine hK _ _ ?_;clear hK K) | skip
     try simp only [Act.put,List.setIfInBounds_toArray,List.set_cons_succ]
     refine wpAnyIn_ready (rs:=[1,2]) (by kernel_rfl) (by simp) ?_
     refine (AllReadyIn.cons rfl (fun K hK=>?_) (AllReadyIn.cons rfl (fun K hK=>?_) AllReadyIn.nil))
     ·skip
      go_simp
      first | (refine hK _ _ ?_;clear hK K) | skip
      try simp only [Act.put,List.setIfInBounds_toArray,List.set_cons_succ]
      refine wpAnyIn_ready (rs:=[2]) (by kernel_rfl) (by simp) ?_
      refine (AllReadyIn.cons rfl (fun K hK=>?_) AllReadyIn.nil)
      go_simp
      first | (refine hK _ _ ?_;clear hK K) | skip
      try simp only [Act.put,List.setIfInBounds_toArray,List.set_cons_succ]
      refine wpAnyIn_ready (rs:=[3]) (by kernel_rfl) (by simp) ?_
      refine (AllReadyIn.cons rfl (fun K hK=>?_) AllReadyIn.nil)
      go_simp
      gi_wp2_with (gi_at_call 47;((with_reducible refine (CallsIn.inRound l' (callsIn_wide.2 HBG.out)).mono ?_);rintro e X3 ⟨v,rfl,hA3,hS3,hD3,hf3⟩;obtain ⟨u',X4,hap,hu3,hu4,hf4,hE5,hm5,hk5⟩:=HEX.out.step HA2D.out HD2D.out hA3 hD3 hS3 HLL.out (BO + 1) Ds HMX.out;obtain ⟨ad5,cap5,hu5⟩:=hE5.row.form;obtain ⟨n5,hn5⟩:∃ n,n=(out ++ rb.2).length:=⟨_,rfl⟩;rw [← hn5] at hu5;subst hu5;clear hn5;have HAP:=qh hap;have HE5:=qh hE5;have HM5:=qh hm5;have HK5:=qh hk5;clear hA3 hS3 hD3 hf3 hE5 hm5 hk5 hap))
      first | (refine hK _ _ ?_;clear hK K) | skip
      try simp only [Act.put,List.setIfInBounds_toArray,List.set_cons_succ]
      refine wpAnyIn_ready (rs:=[4]) (by kernel_rfl) (by simp) ?_
      refine want_append 24 (.tmp 34) (.tmp 37) rfl rfl rfl (.slice ad ln cap) v (.slice ad5 n5 cap5) X4 rfl rfl HAP.out ?_ AllReadyIn.nil
      try simp only [Act.put,List.setIfInBounds_toArray]
      refine wpAnyIn_ready (rs:=[5]) (by kernel_rfl) (by simp) ?_
      refine (AllReadyIn.cons rfl (fun K hK=>?_) AllReadyIn.nil)
      go_simp
      first | (refine hK _ _ ?_;clear hK K) | skip
      try simp only [Act.put,List.setIfInBounds_toArray,List.set_cons_succ]
      refine wpAnyIn_done (by kernel_rfl) ?_ _
      gi_wp2
      exact ⟨HK5.out _ HUI.out,rfl,pre,i,_,.slice ad5 n5 cap5,rfl,HX1.out,by rw [← HXX.out];exact HXE.out,by rw [← HXX.out,← HRB.out];exact HE5.out,HM5.out⟩
     ·skip
      go_simp
      first | (refine hK _ _ ?_;clear hK K) | skip
      try simp only [Act.put,List.setIfInBounds_toArray,List.set_cons_succ]
      refine wpAnyIn_ready (rs:=[1]) (by kernel_rfl) (by simp) ?_
      refine (AllReadyIn.cons rfl (fun K hK=>?_) AllReadyIn.nil)
      go_simp
      first | (refine hK _ _ ?_;clear hK K) | skip
      try simp only [Act.put,List.setIfInBounds_toArray,List.set_cons_succ]
      refine wpAnyIn_ready (rs:=[3]) (by kernel_rfl) (by simp) ?_
      refine (AllReadyIn.cons rfl (fun K hK=>?_) AllReadyIn.nil)
      go_simp
      gi_wp2_with (gi_at_call 47;((with_reducible refine (CallsIn.inRound l' (callsIn_wide.2 HBG.out)).mono ?_);rintro e X3 ⟨v,rfl,hA3,hS3,hD3,hf3⟩;obtain ⟨u',X4,hap,hu3,hu4,hf4,hE5,hm5,hk5⟩:=HEX.out.step HA2D.out HD2D.out hA3 hD3 hS3 HLL.out (BO + 1) Ds HMX.out;obtain ⟨ad5,cap5,hu5⟩:=hE5.row.form;obtain ⟨n5,hn5⟩:∃ n,n=(out ++ rb.2).length:=⟨_,rfl⟩;rw [← hn5] at hu5;subst hu5;clear hn5;have HAP:=qh hap;have HE5:=qh hE5;have HM5:=qh hm5;have HK5:=qh hk5;clear hA3 hS3 hD3 hf3 hE5 hm5 hk5 hap))
      first | (refine hK _ _ ?_;clear hK K) | skip
      try simp only [Act.put,List.setIfInBounds_toArray,List.set_cons_succ]
      refine wpAnyIn_ready (rs:=[4]) (by kernel_rfl) (by simp) ?_
      refine want_append 24 (.tmp 34) (.tmp 37) rfl rfl rfl (.slice ad ln cap) v (.slice ad5 n5 cap5) X4 rfl rfl HAP.out ?_ AllReadyIn.nil
      try simp only [Act.put,List.setIfInBounds_toArray]
      refine wpAnyIn_ready (rs:=[5]) (by kernel_rfl) (by simp) ?_
      refine (AllReadyIn.cons rfl (fun K hK=>?_) AllReadyIn.nil)
      go_simp
      first | (refine hK _ _ ?_;clear hK K) | skip
      try simp only [Act.put,List.setIfInBounds_toArray,List.set_cons_succ]
      refine wpAnyIn_done (by kernel_rfl) ?_ _
      gi_wp2
      exact ⟨HK5.out _ HUI.out,rfl,pre,i,_,.slice ad5 n5 cap5,rfl,HX1.out,by rw [← HXX.out];exact HXE.out,by rw [← HXX.out,← HRB.out];exact HE5.out,HM5.out⟩
    ·skip
     go_simp
     first | (refine hK _ _ ?_;clear hK K) | skip
     try simp only [Act.put,List.setIfInBounds_toArray,List.set_cons_succ]
     refine wpAnyIn_ready (rs:=[0,2]) (by kernel_rfl) (by simp) ?_
     refine (AllReadyIn.cons rfl (fun K hK=>?_) (AllReadyIn.cons rfl (fun K hK=>?_) AllReadyIn.nil))
     ·skip
      go_simp
      first | (refine hK _ _ ?_;clear hK K) | skip
      try simp only [Act.put,List.setIfInBounds_toArray,List.set_cons_succ]
      refine wpAnyIn_ready (rs:=[2]) (by kernel_rfl) (by simp) ?_
      refine (AllReadyIn.cons rfl (fun K hK=>?_) AllReadyIn.nil)
      go_simp
      first | (refine hK _ _ ?_;clear hK K) | skip
      try simp only [Act.put,List.setIfInBounds_toArray,List.set_cons_succ]
      refine wpAnyIn_ready (rs:=[3]) (by kernel_rfl) (by simp) ?_
      refine (AllReadyIn.cons rfl (fun K hK=>?_) AllReadyIn.nil)
      go_simp
      gi_wp2_with (gi_at_call 47;((with_reducible refine (CallsIn.inRound l' (callsIn_wide.2 HBG.out)).mono ?_);rintro e X3 ⟨v,rfl,hA3,hS3,hD3,hf3⟩;obtain ⟨u',X4,hap,hu3,hu4,hf4,hE5,hm5,hk5⟩:=HEX.out.step HA2D.out HD2D.out hA3 hD3 hS3 HLL.out (BO + 1) Ds HMX.out;obtain ⟨ad5,cap5,hu5⟩:=hE5.row.form;obtain ⟨n5,hn5⟩:∃ n,n=(out ++ rb.2).length:=⟨_,rfl⟩;rw [← hn5] at hu5;subst hu5;clear hn5;have HAP:=qh hap;have HE5:=qh hE5;have HM5:=qh hm5;have HK5:=qh hk5;clear hA3 hS3 hD3 hf3 hE5 hm5 hk5 hap))
      first | (refine hK _ _ ?_;clear hK K) | skip
      try simp only [Act.put,List.setIfInBounds_toArray,List.set_cons_succ]
      refine wpAnyIn_ready (rs:=[4]) (by kernel_rfl) (by simp) ?_
      refine want_append 24 (.tmp 34) (.tmp 37) rfl rfl rfl (.slice ad ln cap) v (.slice ad5 n5 cap5) X4 rfl rfl HAP.out ?_ AllReadyIn.nil
      try simp only [Act.put,List.setIfInBounds_toArray]
      refine wpAnyIn_ready (rs:=[5]) (by kernel_rfl) (by simp) ?_
      refine (AllReadyIn.cons rfl (fun K hK=>?_) AllReadyIn.nil)
      go_simp
      first | (refine hK _ _ ?_;clear hK K) | skip
      try simp only [Act.put,List.setIfInBounds_toArray,List.set_cons_succ]
      refine wpAnyIn_done (by kernel_rfl) ?_ _
      gi_wp2
      exact ⟨HK5.out _ HUI.out,rfl,pre,i,_,.slice ad5 n5 cap5,rfl,HX1.out,by rw [← HXX.out];exact HXE.out,by rw [← HXX.out,← HRB.out];exact HE5.out,HM5.out⟩
     ·skip
      go_simp
      first | (refine hK _ _ ?_;clear hK K) | skip
      try simp only [Act.put,List.setIfInBounds_toArray,List.set_cons_succ]
      refine wpAnyIn_ready (rs:=[0,3]) (by kernel_rfl) (by simp) ?_
      refine (AllReadyIn.cons rfl (fun K hK=>?_) (AllReadyIn.cons rfl (fun K hK=>?_) AllReadyIn.nil))
      ·skip
       go_simp
       first | (refine hK _ _ ?_;clear hK K) | skip
       try simp only [Act.put,List.setIfInBounds_toArray,List.set_cons_succ]
       refine wpAnyIn_ready (rs:=[3]) (by kernel_rfl) (by simp) ?_
       refine (AllReadyIn.cons rfl (fun K hK=>?_) AllReadyIn.nil)
       go_simp
       gi_wp2_with (gi_at_call 47;((with_reducible refine (CallsIn.inRound l' (callsIn_wide.2 HBG.out)).mono ?_);rintro e X3 ⟨v,rfl,hA3,hS3,hD3,hf3⟩;obtain ⟨u',X4,hap,hu3,hu4,hf4,hE5,hm5,hk5⟩:=HEX.out.step HA2D.out HD2D.out hA3 hD3 hS3 HLL.out (BO + 1) Ds HMX.out;obtain ⟨ad5,cap5,hu5⟩:=hE5.row.form;obtain ⟨n5,hn5⟩:∃ n,n=(out ++ rb.2).length:=⟨_,rfl⟩;rw [← hn5] at hu5;subst hu5;clear hn5;have HAP:=qh hap;have HE5:=qh hE5;have HM5:=qh hm5;have HK5:=qh hk5;clear hA3 hS3 hD3 hf3 hE5 hm5 hk5 hap))
       first | (refine hK _ _ ?_;clear hK K) | skip
       try simp only [Act.put,List.setIfInBounds_toArray,List.set_cons_succ]
       refine wpAnyIn_ready (rs:=[4]) (by kernel_rfl) (by simp) ?_
       refine want_append 24 (.tmp 34) (.tmp 37) rfl rfl rfl (.slice ad ln cap) v (.slice ad5 n5 cap5) X4 rfl rfl HAP.out ?_ AllReadyIn.nil
       try simp only [Act.put,List.setIfInBounds_toArray]
       refine wpAnyIn_ready (rs:=[5]) (by kernel_rfl) (by simp) ?_
       refine (AllReadyIn.cons rfl (fun K hK=>?_) AllReadyIn.nil)
       go_simp
       first | (refine hK _ _ ?_;clear hK K) | skip
       try simp only [Act.put,List.setIfInBounds_toArray,List.set_cons_succ]
       refine wpAnyIn_done (by kernel_rfl) ?_ _
       gi_wp2
       exact ⟨HK5.out _ HUI.out,rfl,pre,i,_,.slice ad5 n5 cap5,rfl,HX1.out,by rw [← HXX.out];exact HXE.out,by rw [← HXX.out,← HRB.out];exact HE5.out,HM5.out⟩
      ·skip
       go_simp
       gi_wp2_with (gi_at_call 47;((with_reducible refine (CallsIn.inRound l' (callsIn_wide.2 HBG.out)).mono ?_);rintro e X3 ⟨v,rfl,hA3,hS3,hD3,hf3⟩;obtain ⟨u',X4,hap,hu3,hu4,hf4,hE5,hm5,hk5⟩:=HEX.out.step HA2D.out HD2D.out hA3 hD3 hS3 HLL.out (BO + 1) Ds HMX.out;obtain ⟨ad5,cap5,hu5⟩:=hE5.row.form;obtain ⟨n5,hn5⟩:∃ n,n=(out ++ rb.2).length:=⟨_,rfl⟩;rw [← hn5] at hu5;subst hu5;clear hn5;have HAP:=qh hap;have HE5:=qh hE5;have HM5:=qh hm5;have HK5:=qh hk5;clear hA3 hS3 hD3 hf3 hE5 hm5 hk5 hap))
       first | (refine hK _ _ ?_;clear hK K) | skip
       try simp only [Act.put,List.setIfInBounds_toArray,List.set_cons_succ]
       refine wpAnyIn_ready (rs:=[0]) (by kernel_rfl) (by simp) ?_
       refine (AllReadyIn.cons rfl (fun K hK=>?_) AllReadyIn.nil)
       go_simp
       first | (refine hK _ _ ?_;clear hK K) | skip
       try simp only [Act.put,List.setIfInBounds_toArray,List.set_cons_succ]
       refine wpAnyIn_ready (rs:=[4]) (by kernel_rfl) (by simp) ?_
       refine want_append 24 (.tmp 34) (.tmp 37) rfl rfl rfl (.slice ad ln cap) v (.slice ad5 n5 cap5) X4 rfl rfl HAP.out ?_ AllReadyIn.nil
       try simp only [Act.put,List.setIfInBounds_toArray]
       refine wpAnyIn_ready (rs:=[5]) (by kernel_rfl) (by simp) ?_
       refine (AllReadyIn.cons rfl (fun K hK=>?_) AllReadyIn.nil)
       go_simp
       first | (refine hK _ _ ?_;clear hK K) | skip
       try simp only [Act.put,List.setIfInBounds_toArray,List.set_cons_succ]
       refine wpAnyIn_done (by kernel_rfl) ?_ _
       gi_wp2
       exact ⟨HK5.out _ HUI.out,rfl,pre,i,_,.slice ad5 n5 cap5,rfl,HX1.out,by rw [← HXX.out];exact HXE.out,by rw [← HXX.out,← HRB.out];exact HE5.out,HM5.out⟩
    ·skip
     go_simp
     first | (refine hK _ _ ?_;clear hK K) | skip
     try simp only [Act.put,List.setIfInBounds_toArray,List.set_cons_succ]
     refine wpAnyIn_ready (rs:=[0,1]) (by kernel_rfl) (by simp) ?_
     refine (AllReadyIn.cons rfl (fun K hK=>?_) (AllReadyIn.cons rfl (fun K hK=>?_) AllReadyIn.nil))
     ·skip
      go_simp
      first | (refine hK _ _ ?_;clear hK K) | skip
      try simp only [Act.put,List.setIfInBounds_toArray,List.set_cons_succ]
      refine wpAnyIn_ready (rs:=[1]) (by kernel_rfl) (by simp) ?_
      refine (AllReadyIn.cons rfl (fun K hK=>?_) AllReadyIn.nil)
      go_simp
      first | (refine hK _ _ ?_;clear hK K) | skip
      try simp only [Act.put,List.setIfInBounds_toArray,List.set_cons_succ]
      refine wpAnyIn_ready (rs:=[3]) (by kernel_rfl) (by simp) ?_
      refine (AllReadyIn.cons rfl (fun K hK=>?_) AllReadyIn.nil)
      go_simp
      gi_wp2_with (gi_at_call 47;((with_reducible refine (CallsIn.inRound l' (callsIn_wide.2 HBG.out)).mono ?_);rintro e X3 ⟨v,rfl,hA3,hS3,hD3,hf3⟩;obtain ⟨u',X4,hap,hu3,hu4,hf4,hE5,hm5,hk5⟩:=HEX.out.step HA2D.out HD2D.out hA3 hD3 hS3 HLL.out (BO + 1) Ds HMX.out;obtain ⟨ad5,cap5,hu5⟩:=hE5.row.form;obtain ⟨n5,hn5⟩:∃ n,n=(out ++ rb.2).length:=⟨_,rfl⟩;rw [← hn5] at hu5;subst hu5;clear hn5;have HAP:=qh hap;have HE5:=qh hE5;have HM5:=qh hm5;have HK5:=qh hk5;clear hA3 hS3 hD3 hf3 hE5 hm5 hk5 hap))
      first | (refine hK _ _ ?_;clear hK K) | skip
      try simp only [Act.put,List.setIfInBounds_toArray,List.set_cons_succ]
      refine wpAnyIn_ready (rs:=[4]) (by kernel_rfl) (by simp) ?_
      refine want_append 24 (.tmp 34) (.tmp 37) rfl rfl rfl (.slice ad ln cap) v (.slice ad5 n5 cap5) X4 rfl rfl HAP.out ?_ AllReadyIn.nil
      try simp only [Act.put,List.setIfInBounds_toArray]
      refine wpAnyIn_ready (rs:=[5]) (by kernel_rfl) (by simp) ?_
      refine (AllReadyIn.cons rfl (fun K hK=>?_) AllReadyIn.nil)
      go_simp
      first | (refine hK _ _ ?_;clear hK K) | skip
      try simp only [Act.put,List.setIfInBounds_toArray,List.set_cons_succ]
      refine wpAnyIn_done (by kernel_rfl) ?_ _
      gi_wp2
      exact ⟨HK5.out _ HUI.out,rfl,pre,i,_,.slice ad5 n5 cap5,rfl,HX1.out,by rw [← HXX.out];exact HXE.out,by rw [← HXX.out,← HRB.out];exact HE5.out,HM5.out⟩
     ·skip
      go_simp
      first | (refine hK _ _ ?_;clear hK K) | skip
      try simp only [Act.put,List.setIfInBounds_toArray,List.set_cons_succ]
      refine wpAnyIn_ready (rs:=[0,3]) (by kernel_rfl) (by simp) ?_
      refine (AllReadyIn.cons rfl (fun K hK=>?_) (AllReadyIn.cons rfl (fun K hK=>?_) AllReadyIn.nil))
      ·skip
       go_simp
       first | (refine hK _ _ ?_;clear hK K) | skip
       try simp only [Act.put,List.setIfInBounds_toArray,List.set_cons_succ]
       refine wpAnyIn_ready (rs:=[3]) (by kernel_rfl) (by simp) ?_
       refine (AllReadyIn.cons rfl (fun K hK=>?_) AllReadyIn.nil)
       go_simp
       gi_wp2_with (gi_at_call 47;((with_reducible refine (CallsIn.inRound l' (callsIn_wide.2 HBG.out)).mono ?_);rintro e X3 ⟨v,rfl,hA3,hS3,hD3,hf3⟩;obtain ⟨u',X4,hap,hu3,hu4,hf4,hE5,hm5,hk5⟩:=HEX.out.step HA2D.out HD2D.out hA3 hD3 hS3 HLL.out (BO + 1) Ds HMX.out;obtain ⟨ad5,cap5,hu5⟩:=hE5.row.form;obtain ⟨n5,hn5⟩:∃ n,n=(out ++ rb.2).length:=⟨_,rfl⟩;rw [← hn5] at hu5;subst hu5;clear hn5;have HAP:=qh hap;have HE5:=qh hE5;have HM5:=qh hm5;have HK5:=qh hk5;clear hA3 hS3 hD3 hf3 hE5 hm5 hk5 hap))
       first | (refine hK _ _ ?_;clear hK K) | skip
       try simp only [Act.put,List.setIfInBounds_toArray,List.set_cons_succ]
       refine wpAnyIn_ready (rs:=[4]) (by kernel_rfl) (by simp) ?_
       refine want_append 24 (.tmp 34) (.tmp 37) rfl rfl rfl (.slice ad ln cap) v (.slice ad5 n5 cap5) X4 rfl rfl HAP.out ?_ AllReadyIn.nil
       try simp only [Act.put,List.setIfInBounds_toArray]
       refine wpAnyIn_ready (rs:=[5]) (by kernel_rfl) (by simp) ?_
       refine (AllReadyIn.cons rfl (fun K hK=>?_) AllReadyIn.nil)
       go_simp
       first | (refine hK _ _ ?_;clear hK K) | skip
       try simp only [Act.put,List.setIfInBounds_toArray,List.set_cons_succ]
       refine wpAnyIn_done (by kernel_rfl) ?_ _
       gi_wp2
       exact ⟨HK5.out _ HUI.out,rfl,pre,i,_,.slice ad5 n5 cap5,rfl,HX1.out,by rw [← HXX.out];exact HXE.out,by rw [← HXX.out,← HRB.out];exact HE5.out,HM5.out⟩
      ·skip
       go_simp
       gi_wp2_with (gi_at_call 47;((with_reducible refine (CallsIn.inRound l' (callsIn_wide.2 HBG.out)).mono ?_);rintro e X3 ⟨v,rfl,hA3,hS3,hD3,hf3⟩;obtain ⟨u',X4,hap,hu3,hu4,hf4,hE5,hm5,hk5⟩:=HEX.out.step HA2D.out HD2D.out hA3 hD3 hS3 HLL.out (BO + 1) Ds HMX.out;obtain ⟨ad5,cap5,hu5⟩:=hE5.row.form;obtain ⟨n5,hn5⟩:∃ n,n=(out ++ rb.2).length:=⟨_,rfl⟩;rw [← hn5] at hu5;subst hu5;clear hn5;have HAP:=qh hap;have HE5:=qh hE5;have HM5:=qh hm5;have HK5:=qh hk5;clear hA3 hS3 hD3 hf3 hE5 hm5 hk5 hap))
       first | (refine hK _ _ ?_;clear hK K) | skip
       try simp only [Act.put,List.setIfInBounds_toArray,List.set_cons_succ]
       refine wpAnyIn_ready (rs:=[0]) (by kernel_rfl) (by simp) ?_
       refine (AllReadyIn.cons rfl (fun K hK=>?_) AllReadyIn.nil)
       go_simp
       first | (refine hK _ _ ?_;clear hK K) | skip
       try simp only [Act.put,List.setIfInBounds_toArray,List.set_cons_succ]
       refine wpAnyIn_ready (rs:=[4]) (by kernel_rfl) (by simp) ?_
       refine want_append 24 (.tmp 34) (.tmp 37) rfl rfl rfl (.slice ad ln cap) v (.slice ad5 n5 cap5) X4 rfl rfl HAP.out ?_ AllReadyIn.nil
       try simp only [Act.put,List.setIfInBounds_toArray]
       refine wpAnyIn_ready (rs:=[5]) (by kernel_rfl) (by simp) ?_
       refine (AllReadyIn.cons rfl (fun K hK=>?_) AllReadyIn.nil)
       go_simp
       first | (refine hK _ _ ?_;clear hK K) | skip
       try simp only [Act.put,List.setIfInBounds_toArray,List.set_cons_succ]
       refine wpAnyIn_done (by kernel_rfl) ?_ _
       gi_wp2
       exact ⟨HK5.out _ HUI.out,rfl,pre,i,_,.slice ad5 n5 cap5,rfl,HX1.out,by rw [← HXX.out];exact HXE.out,by rw [← HXX.out,← HRB.out];exact HE5.out,HM5.out⟩
   ·have ex:(x.b == (b:Int))=false:=by simpa using hxb
    have HXE:=qh hxb
    clear hxb
    gi_wp2
    exact ⟨KeepsFrom.refl _ _,tt.Same.refl _ _,nbs_snoc HX1.out (by rw [← HXX.out];exact HXE.out),HXB.out⟩
  case hdone=>
   rintro D ys X hD rfl ⟨h1,hbl⟩ hK
   have hgX:wI.grownBy X none:=⟨hbl.os,hbl.tape,hbl.output,hbl.size,fun k hk _=>hbl.block k hk⟩
   have HEX:=qh (HEI.out.grown hgX)
   have HMX:Hid (Marks (BO + 1) X (D :: Ds)):=qh ((HMI.out.grown hgX).cons hK (by have:=HBI.out;omega) (fun D' hD'=>by have:=HDL.out D' hD';omega))
   have HNO:=qh (nbs_all h1)
   have c9:=cr HEX.out.box 0 rfl
   clear hgX hbl hK h1 hnl hic
   go_wp2_with fail
   rw [Exit.noGoto_ret,HDS.out]
   exact calm_ret (HLV.out (D :: Ds) X _ HEX.out (.inl HNO.out) HMX.out rfl)
  case hstop=>
   rintro D c' ys X hD hpre ⟨rfl,pre,i,F3,u3,rfl,e2,e3,E3,hm3⟩ hK
   obtain ⟨q1,q2,q3⟩:=nbs_first e2 hpre
   have HR:=qh (run_first b Hk HJN.out (Hk.wt.take i.val) (Hk.wt.drop (i.val + 1)) (Hk.wt.get i) q1 q2 e3 _ rfl)
   rw [← q3] at HR
   have HBW:Hid ((begin1 { Hk with wt:=Hk.wt.eraseIdx i.val } (Hk.wt.get i)).1.wt.length + 1=Hk.wt.length):=qh (by
    rw [begin1_wt]
    show (Hk.wt.eraseIdx i.val).length + 1=_
    rw [List.length_eraseIdx_of_lt i.isLt];have:=i.isLt;omega)
   have HBL:=qh (begin1_len { Hk with wt:=Hk.wt.eraseIdx i.val } (Hk.wt.get i))
   generalize begin1 { Hk with wt:=Hk.wt.eraseIdx i.val } (Hk.wt.get i)=r at E3 HR HBW HBL
   have HE3:=qh E3
   have HM3:Hid (Marks (BO + 1) X (D :: Ds)):=qh (hm3.cons hK (by have:=HBI.out;omega) (fun D' hD'=>by have:=HDL.out D' hD';omega))
   have HDD:Hid (mark D={ target:= .collected D,args:=#[] }):=qh rfl
   clear e2 e3 E3 hm3 hK hpre q1 q2 q3 hnl hic hD
   refine wpIn_wide.2 ?_
   go_wp2_with fail
   rw [HDS.out]
   refine ⟨⟨_,_,_,_,_,_,_,_,_,_,_,_,_,_,_,_,_,_,_,_,_,_,_,_,_,_,_,_,_,_,_,_,_,_,D :: Ds,⟨F3,r.1,u3,out ++ r.2,HE3.out,HM3.out,?_,?_⟩,rfl⟩,?_⟩
   ·rw [HPU.out,HR.out,List.append_assoc]
   ·have h1:=HBW.out
    have h2:=HBL.out
    have h3:=HLE.out
    rw [List.length_append];omega
   ·rw [HE3.out.home.lenAt,HEE.out.home.lenAt]
    have:=HBW.out
    omega
end
end Go.Proofs.YtenhdijbcdkfbaaGreatDoor.hh
