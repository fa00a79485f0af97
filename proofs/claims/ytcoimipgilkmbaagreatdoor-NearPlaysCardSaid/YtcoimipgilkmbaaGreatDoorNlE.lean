/-
 What a near waits for, has ready; its lines; Load and Store: contracts. Conditions: as NlA names them.
-/
import Derived.Test.YtcoimipgilkmbaaGreatDoorTl
import Derived.Test.YtcoimipgilkmbaaGreatDoorNlD
namespace Go.Proofs.YtcoimipgilkmbaaGreatDoor.nl
set_option linter.unusedVariables false
set_option linter.unusedSimpArgs false
set_option maxRecDepth 1000000
set_option maxHeartbeats 16000000
open Go Go.ChangeShapes Go.WideShapes Go.ChangeAt Go.RowKit Go.Shelf
open Go.Proofs.YtcoimipgilkmbaaGreatDoor.nr
open Go.Proofs.YtcoimipgilkmbaaGreatDoor.tt (Cfg Nt na nt zn bare zd fits row tyne lt_of U Tab TabK grown_refl grown_trans grown_alloc grown_setCells grown_drew grown_drewN yes)
open Go.Proofs.YtcoimipgilkmbaaGreatDoor.kk (Ln St zl la ln cfind cdrop cuse cgoes cwrite cturn cput setAt setOf live fF Shp Cac Kept)
open Go.Proofs.YtcoimipgilkmbaaGreatDoor.bk (Bk rem kills puts putE fd fl Nd Rg dead fresh BkAt)
open Go.Proofs.YtcoimipgilkmbaaGreatDoor.mrk (Ms rdS wrS meets addE Dom MkAt)
open Go.Proofs.YtcoimipgilkmbaaGreatDoor.de (Dl sT gE rF aD LAt)
open Go.Proofs.YtcoimipgilkmbaaGreatDoor.oo (ref)
theorem var_ln {w w1:World} (hg:w.grownBy w1 none) (l:Ln):(w1.alloc (.cells (la zl) 50)).heap[w1.heap.size]?=some (.cells (la zl) 50 (0,0))∧w.grownBy ((w1.alloc (.cells (la zl) 50)).setRow w1.heap.size (la l)) none∧((w1.alloc (.cells (la zl) 50)).setRow w1.heap.size (la l)).rangeAt w1.heap.size 0 (ln l):=
 ⟨heap_alloc_new _ _,kk.grown_setRow (grown_alloc hg _) _ hg.size _,kk.range_of (setRow_heap _ _ _ _ _ _ (heap_alloc_new _ _))⟩
theorem var_nt {w w1:World} (hg:w.grownBy w1 none) (n:Nt):(w1.alloc (.cells (na zn) 37)).heap[w1.heap.size]?=some (.cells (na zn) 37 (0,0))∧w.grownBy ((w1.alloc (.cells (na zn) 37)).setRow w1.heap.size (na n)) none∧((w1.alloc (.cells (na zn) 37)).setRow w1.heap.size (na n)).rangeAt w1.heap.size 0 (nt n):=
 ⟨heap_alloc_new _ _,tt.grown_setRow (grown_alloc hg _) _ hg.size _,tt.range_of (setRow_heap _ _ _ _ _ _ (heap_alloc_new _ _))⟩
section
variable {w:World} {L:LL} {P:Pm} {k:Nr} (h:LN w L P k) (I:Inv P k)
include h I
theorem waitsfor_any (b:Int):Calls Tryz.prog 136 #[.pointer (some ⟨L.q,0,none⟩),.int .i64 b] w fun e w'=>e = .returned (.bool (k.wt && decide (k.ask.b=b)))∧w.grownBy w' none:=by
 have HW:=qh (waits_any h I)
 have hs:k.wt=true→(shown k).b=k.ask.b:=fun e=>by unfold shown;rw [if_pos e]
 obtain ⟨a,ha⟩:∃ a,shown k=a:=⟨_,rfl⟩
 obtain ⟨wt,hw⟩:∃ x,k.wt=x:=⟨_,rfl⟩
 obtain ⟨kb,hkb⟩:∃ x,k.ask.b=x:=⟨_,rfl⟩
 rw [ha,hw] at HW
 rw [ha,hw,hkb] at hs
 rw [hw,hkb]
 have HV:Hid (∀ w1:World,w.grownBy w1 none→_):=qh fun w1 hg=>var_nt (w:=w) (w1:=w1) hg a
 rw [zn_na] at HV
 clear h I ha hw hkb
 cases wt
 ·clear hs
  go_enter Tryz.func136,Tryz.ntmps136
  go_wp2_with (first
   | (go_at_call 22;((with_reducible refine HW.out.mono ?_);rintro e w1 ⟨rfl,hg1⟩;have HV1:=qh (HV.out w1 hg1);clear hg1 HV))
   | ((with_reducible refine tt.store_any a (na zn) 5 10 w1.heap.size ?_ ?_ ?_ ?_ ?_);((rfl));((rfl));((exact HV1.out.1));((rfl))))
  go_ret
  exact ⟨rfl,HV1.out.2.1⟩
 ·have hs:=hs rfl
  subst hs
  go_enter Tryz.func136,Tryz.ntmps136
  go_wp2_with (first
   | (go_at_call 22;((with_reducible refine HW.out.mono ?_);rintro e w1 ⟨rfl,hg1⟩;have HV1:=qh (HV.out w1 hg1);have q3:=tt.cell_at HV1.out.2.2 3 _ rfl;clear hg1 HV))
   | ((with_reducible refine tt.store_any a (na zn) 5 10 w1.heap.size ?_ ?_ ?_ ?_ ?_);((rfl));((rfl));((exact HV1.out.1));((rfl))))
  go_ret
  exact ⟨by by_cases e:a.b=b <;> simp [e],HV1.out.2.1⟩
omit I in
theorem ready_any (b:Int) (wr:Bool):Calls Tryz.prog 51 #[.pointer (some ⟨L.q,0,none⟩),.int .i64 b,.bool wr] w fun e w'=>e = .returned (.bool (rdy P k b wr))∧w.grownBy w' none:=by
 have c2:=h.c2
 have HF:=qh (kk.find_any L.c P.c k.ss w h.ca h.tb.b b)
 have hrd:rdy P k b wr=((cfind P.c k.ss b).2 && (!wr || mw (cfind P.c k.ss b).1)):=rfl
 obtain ⟨l,hl⟩:∃ l,(cfind P.c k.ss b).1=l:=⟨_,rfl⟩
 obtain ⟨f,hf⟩:∃ f,(cfind P.c k.ss b).2=f:=⟨_,rfl⟩
 rw [hl,hf] at HF hrd
 rw [hrd]
 have HV:Hid (∀ w1:World,w.grownBy w1 none→_):=qh fun w1 hg=>var_ln (w:=w) (w1:=w1) hg l
 have HW:=qh fun W=>maywrite_any l W
 have HZ:Hid (la zl=_):=qh kk.zl_la
 rw [HZ.out] at HV
 clear h hl hf hrd
 cases f
 ·go_enter Tryz.func51,Tryz.ntmps51
  go_wp2_with (first
   | (go_at_call 58;((with_reducible refine HF.out.mono ?_);rintro e w1 ⟨rfl,hg1⟩;have HV1:=qh (HV.out w1 hg1);clear hg1 HV))
   | ((with_reducible refine kk.store_any l zl 7 16 w1.heap.size ?_ ?_ ?_ ?_);((rfl));((rfl));((exact HV1.out.1))))
  go_ret
  exact ⟨rfl,HV1.out.2.1⟩
 ·cases wr
  ·go_enter Tryz.func51,Tryz.ntmps51
   go_wp2_with (first
    | (go_at_call 58;((with_reducible refine HF.out.mono ?_);rintro e w1 ⟨rfl,hg1⟩;have HV1:=qh (HV.out w1 hg1);clear hg1 HV))
    | ((with_reducible refine kk.store_any l zl 7 16 w1.heap.size ?_ ?_ ?_ ?_);((rfl));((rfl));((exact HV1.out.1))))
   go_ret
   exact ⟨rfl,HV1.out.2.1⟩
  ·go_enter Tryz.func51,Tryz.ntmps51
   go_upto_region 2 with (first
    | (go_at_call 58;((with_reducible refine HF.out.mono ?_);rintro e w1 ⟨rfl,hg1⟩;have HV1:=qh (HV.out w1 hg1);clear hg1 HV))
    | ((with_reducible refine kk.store_any l zl 7 16 w1.heap.size ?_ ?_ ?_ ?_);((rfl));((rfl));((exact HV1.out.1))))
   obtain ⟨t,nn,HT,hagg,hsize,hld,hsz,hst⟩:=kk.named2
   have hld2:=hld w1.heap.size 0 l _ HV1.out.2.2
   rw [HT.out.1]
   clear hld hsz hst
   go_wp2_with (first
    | (go_at_call 89;((with_reducible refine (HW.out _).mono ?_);rintro e w2 ⟨rfl,hg2⟩;have HG2:=qh (grown_trans HV1.out.2.1 hg2);clear hg2)))
   go_ret
   exact ⟨by simp,HG2.out⟩
def lnV (P:Pm) (k:Nr) (b i:Int):Ln:=if loadE P k b i=0 then (cfind P.c k.ss b).1 else zl
omit I in
theorem line_any (b i:Int):Calls Tryz.prog 48 #[.pointer (some ⟨L.q,0,none⟩),.int .i64 b,.int .i64 i] w fun e w'=>e = .returned (.tuple #[.agg (la (lnV P k b i)),.int .i64 (loadE P k b i)])∧w.grownBy w' none:=by
 have hg0:w.grownBy (w.alloc (.cells (la zl) 50)) none:=grown_alloc (grown_refl _ _) _
 have h0:=h.grown hg0
 have c2:=h0.c2
 have HF:=qh (kk.find_any L.c P.c k.ss _ h0.ca h0.tb.b b)
 have HB:Hid (∀ w1,(w.alloc (.cells (la zl) 50)).grownBy w1 none→w1.heap[w.heap.size]?=some (.cells (la zl) 50 (0,0))∧w.grownBy w1 none):=qh fun w1 hg=>⟨(hg.block _ (by simp) (by simp)).trans (heap_alloc_new _ _),grown_trans hg0 hg⟩
 have hE:loadE P k b i=if (cfind P.c k.ss b).2=false then 4 else if i < 0 ∨ 15 < i then 5 else 0:=rfl
 have hV:lnV P k b i=if loadE P k b i=0 then (cfind P.c k.ss b).1 else zl:=rfl
 obtain ⟨l,hl⟩:∃ l,(cfind P.c k.ss b).1=l:=⟨_,rfl⟩
 obtain ⟨f,hf⟩:∃ f,(cfind P.c k.ss b).2=f:=⟨_,rfl⟩
 rw [hl,hf] at HF
 rw [hf] at hE
 rw [hl] at hV
 have HV:Hid (∀ w1:World,w.grownBy w1 none→_):=qh fun w1 hg=>var_ln (w:=w) (w1:=w1) hg l
 have HX:Hid (∀ w1:World,w1.heap[w.heap.size]?=some (.cells (la zl) 50 (0,0))→((w1.alloc (.cells (la zl) 50)).setRow w1.heap.size (la l)).heap[w.heap.size]?=some (.cells (la zl) 50 (0,0))):=qh fun w1 hb=>by
  have hlt:=lt_of hb
  exact (setRow_other _ _ _ _ (by omega)).trans (((grown_alloc (grown_refl w1 none) _).block _ hlt (by simp)).trans hb)
 have HZ:Hid (la zl=_):=qh kk.zl_la
 rw [HZ.out] at HV HF HB HX c2
 clear h hl hf h0 hg0
 cases f
 ·rw [if_pos rfl] at hE
  rw [hE,if_neg (by decide)] at hV
  rw [hV,hE]
  clear hE hV
  go_enter Tryz.func48,Tryz.ntmps48
  go_wp2_with (first
   | (go_at_call 58;((with_reducible refine HF.out.mono ?_);rintro e w1 ⟨rfl,hg1⟩;have HB1:=qh (HB.out w1 hg1);have HV1:=qh (HV.out w1 HB1.out.2);have HX1:=qh (HX.out w1 HB1.out.1);clear hg1 HV HX))
   | ((with_reducible refine kk.store_any l zl 8 20 w1.heap.size ?_ ?_ ?_ ?_);((rfl));((rfl));((exact HV1.out.1)))
   | ((with_reducible refine kk.store_any zl zl 6 24 w.heap.size ?_ ?_ ?_ ?_);((rfl));((rfl));((exact HX1.out))))
  exact ret_ln2 rfl (x:=zl) (g:=w.heap.size) rfl rfl (kk.range_of (setRow_heap _ _ _ _ _ _ HX1.out)) ⟨rfl,kk.grown_setRow HV1.out.2.1 _ (Nat.le_refl _) _⟩
 ·rw [if_neg (by decide)] at hE
  by_cases hi:i < 0 ∨ 15 < i
  ·rw [if_pos hi] at hE
   rw [hE,if_neg (by decide)] at hV
   rw [hV,hE]
   clear hE hV
   by_cases h0:i < 0
   ·have d0:decide (i < 0)=true:=by simp [h0]
    clear h0 hi
    go_enter Tryz.func48,Tryz.ntmps48
    go_wp2_with (first
     | (go_at_call 58;((with_reducible refine HF.out.mono ?_);rintro e w1 ⟨rfl,hg1⟩;have HB1:=qh (HB.out w1 hg1);have HV1:=qh (HV.out w1 HB1.out.2);have HX1:=qh (HX.out w1 HB1.out.1);clear hg1 HV HX))
     | ((with_reducible refine kk.store_any l zl 8 20 w1.heap.size ?_ ?_ ?_ ?_);((rfl));((rfl));((exact HV1.out.1)))
     | ((with_reducible refine kk.store_any zl zl 6 31 w.heap.size ?_ ?_ ?_ ?_);((rfl));((rfl));((exact HX1.out))))
    exact ret_ln2 rfl (x:=zl) (g:=w.heap.size) rfl rfl (kk.range_of (setRow_heap _ _ _ _ _ _ HX1.out)) ⟨rfl,kk.grown_setRow HV1.out.2.1 _ (Nat.le_refl _) _⟩
   ·have d0:decide (i < 0)=false:=by simp [h0]
    have d1:decide (16 ≤ i)=true:=by simp;omega
    clear h0 hi
    go_enter Tryz.func48,Tryz.ntmps48
    go_wp2_with (first
     | (go_at_call 58;((with_reducible refine HF.out.mono ?_);rintro e w1 ⟨rfl,hg1⟩;have HB1:=qh (HB.out w1 hg1);have HV1:=qh (HV.out w1 HB1.out.2);have HX1:=qh (HX.out w1 HB1.out.1);clear hg1 HV HX))
     | ((with_reducible refine kk.store_any l zl 8 20 w1.heap.size ?_ ?_ ?_ ?_);((rfl));((rfl));((exact HV1.out.1)))
     | ((with_reducible refine kk.store_any zl zl 6 31 w.heap.size ?_ ?_ ?_ ?_);((rfl));((rfl));((exact HX1.out))))
    exact ret_ln2 rfl (x:=zl) (g:=w.heap.size) rfl rfl (kk.range_of (setRow_heap _ _ _ _ _ _ HX1.out)) ⟨rfl,kk.grown_setRow HV1.out.2.1 _ (Nat.le_refl _) _⟩
  ·rw [if_neg hi] at hE
   rw [hE,if_pos rfl] at hV
   rw [hV,hE]
   have d0:decide (i < 0)=false:=by simp;omega
   have d1:decide (16 ≤ i)=false:=by simp;omega
   clear hE hV hi
   go_enter Tryz.func48,Tryz.ntmps48
   go_wp2_with (first
    | (go_at_call 58;((with_reducible refine HF.out.mono ?_);rintro e w1 ⟨rfl,hg1⟩;have HB1:=qh (HB.out w1 hg1);have HV1:=qh (HV.out w1 HB1.out.2);have HX1:=qh (HX.out w1 HB1.out.1);clear hg1 HV HX))
    | ((with_reducible refine kk.store_any l zl 8 20 w1.heap.size ?_ ?_ ?_ ?_);((rfl));((rfl));((exact HV1.out.1)))
    | ((with_reducible refine kk.load_ln l 8 w1.heap.size 0 ?_ HV1.out.2.2 ?_);((rfl)))
    | ((with_reducible refine kk.store_any l zl 6 32 w.heap.size ?_ ?_ ?_ ?_);((rfl));((rfl));((exact HX1.out))))
   exact ret_ln2 rfl (x:=l) (g:=w.heap.size) rfl rfl (kk.range_of (setRow_heap _ _ _ _ _ _ HX1.out)) ⟨rfl,kk.grown_setRow HV1.out.2.1 _ (Nat.le_refl _) _⟩
omit I in
theorem linem_any (b:Int):Calls Tryz.prog 21 #[.pointer (some ⟨L.q,0,none⟩),.int .i64 b] w fun e w'=>e = .returned (.tuple #[.agg (la (cfind P.c k.ss b).1),.bool (cfind P.c k.ss b).2])∧w.grownBy w' none:=by
 have hg0:w.grownBy (w.alloc (.cells (la zl) 50)) none:=grown_alloc (grown_refl _ _) _
 have h0:=h.grown hg0
 have c2:=h0.c2
 have HF:=qh (kk.find_any L.c P.c k.ss _ h0.ca h0.tb.b b)
 have HB:Hid (∀ w1,(w.alloc (.cells (la zl) 50)).grownBy w1 none→w1.heap[w.heap.size]?=some (.cells (la zl) 50 (0,0))∧w.grownBy w1 none):=qh fun w1 hg=>⟨(hg.block _ (by simp) (by simp)).trans (heap_alloc_new _ _),grown_trans hg0 hg⟩
 obtain ⟨l,hl⟩:∃ l,(cfind P.c k.ss b).1=l:=⟨_,rfl⟩
 obtain ⟨f,hf⟩:∃ f,(cfind P.c k.ss b).2=f:=⟨_,rfl⟩
 rw [hl,hf] at HF
 rw [hl,hf]
 have HZ:Hid (la zl=_):=qh kk.zl_la
 rw [HZ.out] at HF HB c2
 clear h hl hf h0 hg0
 go_enter Tryz.func21,Tryz.ntmps21
 go_wp2_with (first
  | (go_at_call 58;((with_reducible refine HF.out.mono ?_);rintro e w1 ⟨rfl,hg1⟩;have HB1:=qh (HB.out w1 hg1);clear hg1))
  | ((with_reducible refine kk.store_any l zl 4 15 w.heap.size ?_ ?_ ?_ ?_);((rfl));((rfl));((exact HB1.out.1))))
 exact ret_ln2 rfl (x:=l) (g:=w.heap.size) rfl rfl (kk.range_of (setRow_heap _ _ _ _ _ _ HB1.out.1)) ⟨rfl,kk.grown_setRow HB1.out.2 _ (Nat.le_refl _) _⟩
end
end Go.Proofs.YtcoimipgilkmbaaGreatDoor.nl
