/-
 Load and Store, the backs' data: contracts. Conditions: as NlA names them.
-/
import Derived.Test.YtcoimipgilkmbaaGreatDoorTl
import Derived.Test.YtcoimipgilkmbaaGreatDoorNlE
namespace Go.Proofs.YtcoimipgilkmbaaGreatDoor.nl
set_option linter.unusedVariables false
set_option linter.unusedSimpArgs false
set_option maxRecDepth 1000000
set_option maxHeartbeats 16000000
open Go Go.ChangeShapes Go.WideShapes Go.ChangeAt Go.RowKit Go.Shelf
open Go.Proofs.YtcoimipgilkmbaaGreatDoor.nr
open Go.Proofs.YtcoimipgilkmbaaGreatDoor.tt (Cfg Nt na nt zn bare zd fits row tyne lt_of U Tab TabK grown_refl grown_trans grown_alloc grown_setCells grown_drew grown_drewN yes)
open Go.Proofs.YtcoimipgilkmbaaGreatDoor.kk (Ln St zl la ln cfind cdrop cuse cgoes cwrite cturn cput setAt setOf live fF Shp Cac Kept)
open Go.Proofs.YtcoimipgilkmbaaGreatDoor.bk (Bk rem kills puts putE fd fl Nd Rg dead fresh BkAt)
open Go.Proofs.YtcoimipgilkmbaaGreatDoor.mrk (Ms rdS wrS meets addE Dom MkAt)
open Go.Proofs.YtcoimipgilkmbaaGreatDoor.de (Dl sT gE rF aD LAt)
open Go.Proofs.YtcoimipgilkmbaaGreatDoor.oo (ref)
section
variable {w W:World} {L:LL} {v:Value} {P:Pm} {k:Nr} {B:List (Nat × Obj)} (m:Mil w W L v P k B)
include m
theorem Mil.varL (l:Ln):Mil w ((W.alloc (.cells (la zl) 50)).setRow W.heap.size (la l)) L v P k ((W.heap.size,ol l) :: B):=
 (m.alloc (la zl) 50).put (i:=0) rfl (grown_row (grown_refl _ _) _ _) (setRow_heap _ _ _ _ _ _ (heap_alloc_new _ _))
theorem Mil.varN (n:Nt):Mil w ((W.alloc (.cells (na zn) 37)).setRow W.heap.size (na n)) L v P k ((W.heap.size,on n) :: B):=
 (m.alloc (na zn) 37).put (i:=0) rfl (grown_row (grown_refl _ _) _ _) (setRow_heap _ _ _ _ _ _ (heap_alloc_new _ _))
end
theorem loadE_zero {P:Pm} {k:Nr} {b i:Int} (h:loadE P k b i=0):(cfind P.c k.ss b).2=true∧0 ≤ i∧i < 16:=by
 unfold loadE at h
 split at h
 ·cases h
 ·rename_i h1
  split at h
  ·cases h
  ·exact ⟨by simpa using h1,by omega,by omega⟩
section
variable {w:World} {L:LL} {P:Pm} {k:Nr} (h:LN w L P k)
include h
theorem load_bad (b i:Int) (hE:loadE P k b i ≠ 0):Calls Tryz.prog 19 #[.pointer (some ⟨L.q,0,none⟩),.int .i64 b,.int .i64 i] w fun e w'=>e = .returned (.tuple #[.int .u32 0,.int .i64 (loadE P k b i)])∧w.grownBy w' none:=by
 have HL:=qh (line_any h b i)
 obtain ⟨l,hl⟩:∃ l,lnV P k b i=l:=⟨_,rfl⟩
 obtain ⟨ec,hec⟩:∃ e,loadE P k b i=e:=⟨_,rfl⟩
 rw [hl,hec] at HL
 rw [hec] at hE ⊢
 have hn:(ec != 0)=true:=by simpa using hE
 have HV:Hid (∀ w1:World,w.grownBy w1 none→_):=qh fun w1 hg=>var_ln (w:=w) (w1:=w1) hg l
 have HZ:Hid (la zl=_):=qh kk.zl_la
 rw [HZ.out] at HV
 clear h hl hec hE
 go_enter Tryz.func19,Tryz.ntmps19
 go_wp2_with (first
  | (go_at_call 48;((with_reducible refine HL.out.mono ?_);rintro e w1 ⟨rfl,hg1⟩;have HV1:=qh (HV.out w1 hg1);clear hg1 HV))
  | ((with_reducible refine kk.store_any l zl 8 15 w1.heap.size ?_ ?_ ?_ ?_);((rfl));((rfl));((exact HV1.out.1))))
 go_ret2
 exact ⟨rfl,HV1.out.2.1⟩
theorem load_ok (b:Int) (i:Nat) (hE:loadE P k b i=0):Calls Tryz.prog 19 #[.pointer (some ⟨L.q,0,none⟩),.int .i64 b,.int .i64 (i:Int)] w fun e w'=>e = .returned (.tuple #[.int .u32 ((cfind P.c k.ss b).1.d.getD i 0),.int .i64 0])∧∃ v,LN w' { L with bv:=v } P { k with ss:=(cuse P.c k.ss b).1,ms:=if 0 < k.d.de then rdS P.N k.ms b else k.ms }∧Mv w w' L v:=by
 obtain ⟨_,_,hi⟩:=loadE_zero hE
 have hm2:(i:Int) < 16:=hi
 have HL:=qh (line_any h b i)
 have hV:lnV P k b i=(cfind P.c k.ss b).1:=by unfold lnV;rw [if_pos hE]
 rw [hV,hE] at HL
 have hd16:=(cfind P.c k.ss b).1.h
 obtain ⟨l,hl⟩:∃ l,(cfind P.c k.ss b).1=l:=⟨_,rfl⟩
 rw [hl] at HL hd16
 rw [hl]
 obtain ⟨x,hx⟩:∃ x,l.d.getD i 0=x:=⟨_,rfl⟩
 have hget:l.d[i]?=some x:=by rw [← hx,List.getD_eq_getElem?_getD,List.getElem?_eq_getElem (by omega)];rfl
 rw [hx]
 have hcell:(ln l)[2 + i]?=some (.int .u32 x):=by rw [kk.ln,show 2 + i=i + 2 from Nat.add_comm _ _];simp [hget,U]
 have H0:=qh (Mil.of h)
 have HV:Hid (∀ w1:World,w.grownBy w1 none→(w1.alloc (.cells (la zl) 50)).heap[w1.heap.size]?=some (.cells (la zl) 50 (0,0))∧Mil w ((w1.alloc (.cells (la zl) 50)).setRow w1.heap.size (la l)) L L.bv P k [(w1.heap.size,ol l)]):=qh fun w1 hg=>⟨heap_alloc_new _ _,(H0.out.grown hg).varL l⟩
 have HC:=qh hcell
 have HZ:Hid (la zl=_):=qh kk.zl_la
 rw [HZ.out] at HV
 obtain ⟨de,hde⟩:∃ de,k.d.de=de:=⟨_,rfl⟩
 have HDP:Hid (∀ (W:World) v B,Mil w W L v P k B→Calls Tryz.prog 36 #[.pointer (some ⟨L.dg,0,none⟩)] W fun e W'=>e = .returned (.int .i64 de)∧W=W'):=qh fun W v B mm=>hde ▸ mm.depth
 rw [hde]
 by_cases hz:0 < de
 ·have d2:decide (0 < de)=true:=by simp [hz]
  rw [if_pos hz]
  clear h hE hi hV hl hd16 hx hget hcell hde hz H0
  go_enter Tryz.func19,Tryz.ntmps19
  go_wp2_with (first
   | (go_at_call 48;((with_reducible refine HL.out.mono ?_);rintro e w1 ⟨rfl,hg1⟩;have HV1:=qh (HV.out w1 hg1);have p5:=HV1.out.2.c5;have p4:=HV1.out.2.c4;clear hg1 HV))
   | ((with_reducible refine kk.store_any l zl 8 15 w1.heap.size ?_ ?_ ?_ ?_);((rfl));((rfl));((exact HV1.out.1)))
   | (go_at_call 36;((with_reducible refine (HDP.out _ _ _ HV1.out.2).mono ?_);rintro e w2 ⟨rfl,rfl⟩))
   | (go_at_call 54;((with_reducible refine (HV1.out.2.read b).mono ?_);rintro e w3 ⟨⟨y,rfl⟩,hm3⟩;have M3:=qh hm3;have r2:=M3.out.c2;clear hm3))
   | (go_at_call 55;((with_reducible refine (M3.out.uses b).mono ?_);rintro e w4 ⟨rfl,hm4⟩;have M4:=qh hm4;have rx:=M4.out.cellL (.head _) _ _ HC.out;clear hm4)))
  all_goals first
   | (exfalso;omega)
   | (go_ret2;exact ⟨rfl,_,M4.out.ln,M4.out.mv⟩)
 ·have d2:decide (0 < de)=false:=by simp [hz]
  rw [if_neg hz]
  clear h hE hi hV hl hd16 hx hget hcell hde hz H0
  go_enter Tryz.func19,Tryz.ntmps19
  go_wp2_with (first
   | (go_at_call 48;((with_reducible refine HL.out.mono ?_);rintro e w1 ⟨rfl,hg1⟩;have HV1:=qh (HV.out w1 hg1);have p5:=HV1.out.2.c5;have p2:=HV1.out.2.c2;clear hg1 HV))
   | ((with_reducible refine kk.store_any l zl 8 15 w1.heap.size ?_ ?_ ?_ ?_);((rfl));((rfl));((exact HV1.out.1)))
   | (go_at_call 36;((with_reducible refine (HDP.out _ _ _ HV1.out.2).mono ?_);rintro e w2 ⟨rfl,rfl⟩))
   | (go_at_call 55;((with_reducible refine (HV1.out.2.uses b).mono ?_);rintro e w4 ⟨rfl,hm4⟩;have M4:=qh hm4;have rx:=M4.out.cellL (.head _) _ _ HC.out;clear hm4)))
  all_goals first
   | (exfalso;omega)
   | (go_ret2;exact ⟨rfl,_,M4.out.ln,M4.out.mv⟩)
theorem load_any (b i:Int):Calls Tryz.prog 19 #[.pointer (some ⟨L.q,0,none⟩),.int .i64 b,.int .i64 i] w fun e w'=>e = .returned (.tuple #[.int .u32 (loadV P k b i),.int .i64 (loadE P k b i)])∧∃ v,LN w' { L with bv:=v } P (loadS P k b i)∧Mv w w' L v:=by
 by_cases hE:loadE P k b i=0
 ·have hV:loadV P k b i=(cfind P.c k.ss b).1.d.getD i.toNat 0:=by unfold loadV;rw [if_pos hE]
  have hS:loadS P k b i={ k with ss:=(cuse P.c k.ss b).1,ms:=if 0 < k.d.de then rdS P.N k.ms b else k.ms }:=by unfold loadS;rw [if_pos hE]
  obtain ⟨_,h0,_⟩:=loadE_zero hE
  have hi:i=((i.toNat:Nat):Int):=by omega
  have:=load_ok h b i.toNat (by rw [← hi];exact hE)
  rw [← hi] at this
  rw [hV,hS,hE];exact this
 ·have hV:loadV P k b i=0:=by unfold loadV;rw [if_neg hE]
  have hS:loadS P k b i=k:=by unfold loadS;rw [if_neg hE]
  rw [hV,hS]
  exact (load_bad h b i hE).mono fun e w' hh=>⟨hh.1,L.bv,h.grown hh.2,Mv.of hh.2⟩
omit h in
theorem cwrite_bad (b i x:Int) (hE:loadE P k b i ≠ 0):cwrite P.c k.ss b i x=(k.ss,loadE P k b i):=by
 unfold loadE cfind at *
 unfold cwrite
 cases hx:(setAt P.c k.ss b).1.findIdx? (kk.isOf b) with
 | none=>rfl
 | some j=>
  rw [hx] at hE
  simp only [Bool.true_eq_false,if_false] at hE ⊢
  by_cases hi:i < 0 ∨ 15 < i
  ·rw [if_neg (by omega),if_pos hi]
  ·rw [if_neg hi] at hE;exact (hE rfl).elim
omit h in
theorem cwrite_keep {b:Int} (i x:Int) (h0:(cwrite P.c k.ss b i x).2 ≠ 0):(cwrite P.c k.ss b i x).1=k.ss:=by
 unfold cwrite at h0 ⊢
 split
 ·rfl
 ·split
  ·split
   ·rfl
   ·rename_i j hj a c
    rw [hj] at h0
    simp only [if_pos a,if_neg c] at h0
    exact (h0 rfl).elim
  ·rfl
theorem store_bad (b i x:Int) (hE:loadE P k b i ≠ 0):Calls Tryz.prog 15 #[.pointer (some ⟨L.q,0,none⟩),.int .i64 b,.int .i64 i,.int .u32 x] w fun e w'=>e = .returned (.tuple #[.int .u32 0,.int .i64 (loadE P k b i)])∧w.grownBy w' none:=by
 have HL:=qh (line_any h b i)
 obtain ⟨l,hl⟩:∃ l,lnV P k b i=l:=⟨_,rfl⟩
 obtain ⟨ec,hec⟩:∃ e,loadE P k b i=e:=⟨_,rfl⟩
 rw [hl,hec] at HL
 rw [hec] at hE ⊢
 have hn:(ec != 0)=true:=by simpa using hE
 have HV:Hid (∀ w1:World,w.grownBy w1 none→_):=qh fun w1 hg=>var_ln (w:=w) (w1:=w1) hg l
 have HZ:Hid (la zl=_):=qh kk.zl_la
 rw [HZ.out] at HV
 clear h hl hec hE
 go_enter Tryz.func15,Tryz.ntmps15
 go_wp2_with (first
  | (go_at_call 48;((with_reducible refine HL.out.mono ?_);rintro e w1 ⟨rfl,hg1⟩;have HV1:=qh (HV.out w1 hg1);clear hg1 HV))
  | ((with_reducible refine kk.store_any l zl 10 16 w1.heap.size ?_ ?_ ?_ ?_);((rfl));((rfl));((exact HV1.out.1))))
 go_ret2
 exact ⟨rfl,HV1.out.2.1⟩
theorem store_ok (b:Int) (i:Nat) (x:Int) (hE:loadE P k b i=0):Calls Tryz.prog 15 #[.pointer (some ⟨L.q,0,none⟩),.int .i64 b,.int .i64 (i:Int),.int .u32 x] w fun e w'=>e = .returned (.tuple #[.int .u32 (if (cwrite P.c k.ss b i x).2=0 then (cfind P.c k.ss b).1.d.getD i 0 else 0),.int .i64 (cwrite P.c k.ss b i x).2])∧∃ v,LN w' { L with bv:=v } P { k with ss:=(cwrite P.c k.ss b i x).1,ms:=if (cwrite P.c k.ss b i x).2=0∧0 < k.d.de then wrS P.N k.ms b else k.ms }∧Mv w w' L v:=by
 obtain ⟨_,_,hi⟩:=loadE_zero hE
 have hm2:(i:Int) < 16:=hi
 have HL:=qh (line_any h b i)
 have hV:lnV P k b i=(cfind P.c k.ss b).1:=by unfold lnV;rw [if_pos hE]
 rw [hV,hE] at HL
 have hd16:=(cfind P.c k.ss b).1.h
 obtain ⟨l,hl⟩:∃ l,(cfind P.c k.ss b).1=l:=⟨_,rfl⟩
 rw [hl] at HL hd16
 rw [hl]
 obtain ⟨y,hx⟩:∃ x,l.d.getD i 0=x:=⟨_,rfl⟩
 have hget:l.d[i]?=some y:=by rw [← hx,List.getD_eq_getElem?_getD,List.getElem?_eq_getElem (by omega)];rfl
 rw [hx]
 have hcell:(ln l)[2 + i]?=some (.int .u32 y):=by rw [kk.ln,show 2 + i=i + 2 from Nat.add_comm _ _];simp [hget,U]
 have H0:=qh (Mil.of h)
 have HV:Hid (∀ w1:World,w.grownBy w1 none→(w1.alloc (.cells (la zl) 50)).heap[w1.heap.size]?=some (.cells (la zl) 50 (0,0))∧Mil w ((w1.alloc (.cells (la zl) 50)).setRow w1.heap.size (la l)) L L.bv P k [(w1.heap.size,ol l)]):=qh fun w1 hg=>⟨heap_alloc_new _ _,(H0.out.grown hg).varL l⟩
 have HC:=qh hcell
 have HZ:Hid (la zl=_):=qh kk.zl_la
 rw [HZ.out] at HV
 obtain ⟨de,hde⟩:∃ de,k.d.de=de:=⟨_,rfl⟩
 obtain ⟨ec,hec⟩:∃ e,(cwrite P.c k.ss b i x).2=e:=⟨_,rfl⟩
 have HDP:Hid (∀ (W:World) v B,Mil w W L v P { k with ss:=(cwrite P.c k.ss b i x).1 } B→Calls Tryz.prog 36 #[.pointer (some ⟨L.dg,0,none⟩)] W fun e W'=>e = .returned (.int .i64 de)∧W=W'):=qh fun W v B mm=>hde ▸ mm.depth
 have HWR:Hid (∀ (W:World) v B,Mil w W L v P k B→Calls Tryz.prog 49 #[.pointer (some ⟨L.c.b,0,none⟩),.int .i64 b,.int .i64 (i:Int),.int .u32 x] W fun e W'=>e = .returned (.int .i64 ec)∧Mil w W' L v P { k with ss:=(cwrite P.c k.ss b i x).1 } B):=qh fun W v B mm=>hec ▸ mm.write b i x
 rw [hde,hec]
 by_cases h0:ec=0
 ·subst h0
  by_cases hz:0 < de
  ·have d2:decide (0 < de)=true:=by simp [hz]
   rw [if_pos (⟨rfl,hz⟩:(0:Int)=0∧0 < de),if_pos (rfl:(0:Int)=0)]
   clear h hE hi hV hl hd16 hx hget hcell hde hz H0 hec
   go_enter Tryz.func15,Tryz.ntmps15
   go_wp2_with (first
    | (go_at_call 48;((with_reducible refine HL.out.mono ?_);rintro e w1 ⟨rfl,hg1⟩;have HV1:=qh (HV.out w1 hg1);have p2:=HV1.out.2.c2;clear hg1 HV))
    | ((with_reducible refine kk.store_any l zl 10 16 w1.heap.size ?_ ?_ ?_ ?_);((rfl));((rfl));((exact HV1.out.1)))
    | (go_at_call 49;((with_reducible refine (HWR.out _ _ _ HV1.out.2).mono ?_);rintro e w3 ⟨rfl,hm3⟩;have M3:=qh hm3;have r5:=M3.out.c5;have r4:=M3.out.c4;have rx:=M3.out.cellL (.head _) _ _ HC.out;clear hm3))
    | (go_at_call 36;((with_reducible refine (HDP.out _ _ _ M3.out).mono ?_);rintro e w2 ⟨rfl,rfl⟩))
    | (go_at_call 50;((with_reducible refine (M3.out.wrote b).mono ?_);rintro e w4 ⟨⟨y2,rfl⟩,hm4⟩;have M4:=qh hm4;have ry:=M4.out.cellL (.head _) _ _ HC.out;clear hm4)))
   all_goals first
    | (exfalso;omega)
    | (go_ret2;exact ⟨rfl,_,M4.out.ln,M4.out.mv⟩)
  ·have d2:decide (0 < de)=false:=by simp [hz]
   rw [if_neg (fun e=>hz e.2:¬ ((0:Int)=0∧0 < de)),if_pos (rfl:(0:Int)=0)]
   clear h hE hi hV hl hd16 hx hget hcell hde hz H0 hec
   go_enter Tryz.func15,Tryz.ntmps15
   go_wp2_with (first
    | (go_at_call 48;((with_reducible refine HL.out.mono ?_);rintro e w1 ⟨rfl,hg1⟩;have HV1:=qh (HV.out w1 hg1);have p2:=HV1.out.2.c2;clear hg1 HV))
    | ((with_reducible refine kk.store_any l zl 10 16 w1.heap.size ?_ ?_ ?_ ?_);((rfl));((rfl));((exact HV1.out.1)))
    | (go_at_call 49;((with_reducible refine (HWR.out _ _ _ HV1.out.2).mono ?_);rintro e w3 ⟨rfl,hm3⟩;have M3:=qh hm3;have r5:=M3.out.c5;have r4:=M3.out.c4;have rx:=M3.out.cellL (.head _) _ _ HC.out;clear hm3))
    | (go_at_call 36;((with_reducible refine (HDP.out _ _ _ M3.out).mono ?_);rintro e w2 ⟨rfl,rfl⟩)))
   all_goals first
    | (exfalso;omega)
    | (go_ret2;exact ⟨rfl,_,M3.out.ln,M3.out.mv⟩)
 ·have hn:(ec != 0)=true:=by simpa using h0
  rw [if_neg (fun e=>h0 e.1:¬ (ec=0∧0 < de)),if_neg h0]
  clear h hE hi hV hl hd16 hx hget hcell hde H0 hec h0
  go_enter Tryz.func15,Tryz.ntmps15
  go_wp2_with (first
   | (go_at_call 48;((with_reducible refine HL.out.mono ?_);rintro e w1 ⟨rfl,hg1⟩;have HV1:=qh (HV.out w1 hg1);have p2:=HV1.out.2.c2;clear hg1 HV))
   | ((with_reducible refine kk.store_any l zl 10 16 w1.heap.size ?_ ?_ ?_ ?_);((rfl));((rfl));((exact HV1.out.1)))
   | (go_at_call 49;((with_reducible refine (HWR.out _ _ _ HV1.out.2).mono ?_);rintro e w3 ⟨rfl,hm3⟩;have M3:=qh hm3;clear hm3)))
  all_goals first
   | (exfalso;omega)
   | (go_ret2;exact ⟨rfl,_,M3.out.ln,M3.out.mv⟩)
theorem store_any (b i x:Int):Calls Tryz.prog 15 #[.pointer (some ⟨L.q,0,none⟩),.int .i64 b,.int .i64 i,.int .u32 x] w fun e w'=>e = .returned (.tuple #[.int .u32 (storeV P k b i x),.int .i64 (storeE P k b i x)])∧∃ v,LN w' { L with bv:=v } P (storeS P k b i x)∧Mv w w' L v:=by
 by_cases hE:loadE P k b i=0
 ·obtain ⟨_,h0,_⟩:=loadE_zero hE
  have hi:i=((i.toNat:Nat):Int):=by omega
  have:=store_ok h b i.toNat x (by rw [← hi];exact hE)
  rw [← hi] at this
  have hV:storeV P k b i x=if (cwrite P.c k.ss b i x).2=0 then (cfind P.c k.ss b).1.d.getD i.toNat 0 else 0:=rfl
  have hS:storeS P k b i x={ k with ss:=(cwrite P.c k.ss b i x).1,ms:=if (cwrite P.c k.ss b i x).2=0∧0 < k.d.de then wrS P.N k.ms b else k.ms }:=by
   unfold storeS storeE
   by_cases hw:(cwrite P.c k.ss b i x).2=0
   ·rw [if_pos hw];simp only [hw,true_and]
   ·rw [if_neg hw,if_neg (fun e=>hw e.1),cwrite_keep i x hw]
  rw [hV,hS];exact this
 ·have hc:=cwrite_bad (P:=P) (k:=k) b i x hE
  have hsE:storeE P k b i x=loadE P k b i:=by unfold storeE;rw [hc]
  have hV:storeV P k b i x=0:=by unfold storeV;rw [hsE,if_neg hE]
  have hS:storeS P k b i x=k:=by unfold storeS;rw [hsE,if_neg hE]
  rw [hV,hS,hsE]
  exact (store_bad h b i x hE).mono fun e w' hh=>⟨hh.1,L.bv,h.grown hh.2,Mv.of hh.2⟩
theorem backm_any (b:Int):Calls Tryz.prog 23 #[.pointer (some ⟨L.q,0,none⟩),.int .i64 b] w fun e w'=>e = .returned (.tuple #[.agg (row (fd (bk.look k.bs b))),.bool (fl (bk.look k.bs b)),.bool (bk.look k.bs b).isSome])∧∃ v,LN w' { L with bv:=v } P k∧Mv w w' L v:=by
 have H0:=qh ((Mil.of h).alloc (row zd) 35)
 have c3:=H0.out.c3
 have HF:=qh (H0.out.bfind b)
 have hdd:=bk.fd_len (bk.look k.bs b)
 obtain ⟨d,hd⟩:∃ d,fd (bk.look k.bs b)=d:=⟨_,rfl⟩
 rw [hd] at HF hdd
 rw [hd]
 obtain ⟨f,hf⟩:∃ f,fl (bk.look k.bs b)=f:=⟨_,rfl⟩
 obtain ⟨s,hs⟩:∃ f,(bk.look k.bs b).isSome=f:=⟨_,rfl⟩
 rw [hf,hs] at HF
 rw [hf,hs]
 have HZ:Hid (row zd=_):=qh bk.zrow
 rw [HZ.out] at HF c3
 have HDD:=qh hdd
 clear h hd hf hs H0 hdd
 go_enter Tryz.func23,Tryz.ntmps23
 go_wp2_with (first
  | (go_at_call 59;((with_reducible refine HF.out.mono ?_);rintro e w1 ⟨rfl,v,hm1⟩;have M1:=qh hm1;have ht:=there_at (hm1.hs _ (.head _)) (n:=16) (by exact Nat.le_refl _);clear hm1))
  | ((with_reducible refine store_b d HDD.out 4 16 w.heap.size 0 ?_ ?_ ht ?_);((rfl));((rfl))))
 have M2:=M1.out.put (i:=0) rfl (grown_setCells w1 w.heap.size 0 (d.map U)) (filled (M1.out.hs _ (.head _)) (by simp [HDD.out];try rfl))
 refine bk.ret_row3 rfl _ d HDD.out _ _ w.heap.size _ _ rfl rfl rfl ?_ ⟨rfl,v,M2.ln,M2.mv⟩
 exact M2.rangeB (.head _)
end
end Go.Proofs.YtcoimipgilkmbaaGreatDoor.nl
