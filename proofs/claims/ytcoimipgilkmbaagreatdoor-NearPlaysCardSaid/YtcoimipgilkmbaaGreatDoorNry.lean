/-
  The document's near: where it lies; what stays when a part of it is written. No condition but what each theorem names.
  What the document's own Load and Store answer, and what its near is behind them: contracts. No condition but what each theorem names.
  What the document's own Store answers, and what its near is behind them: contracts. No condition but what each theorem names.
  What the document's own near answers to one that wants a block, and what it is behind that: contracts. No condition but what each theorem names.
-/
import Derived.Test.YtcoimipgilkmbaaGreatDoorTl
import Derived.Test.YtcoimipgilkmbaaGreatDoorNrx
import Derived.Test.YtcoimipgilkmbaaGreatDoorCdx
import Derived.Test.YtcoimipgilkmbaaGreatDoorBky
import Derived.Test.YtcoimipgilkmbaaGreatDoorMkx
import Derived.Test.YtcoimipgilkmbaaGreatDoorDey
import Derived.Test.YtcoimipgilkmbaaGreatDoorNg
import Derived.StillTailTactics
import Derived.Deep.RegionHeld3
import Derived.BigQuiet
namespace Go.Proofs.YtcoimipgilkmbaaGreatDoor.nr
set_option linter.unusedVariables false
set_option linter.unusedSimpArgs false
set_option maxRecDepth 1000000
set_option maxHeartbeats 16000000
open Go Go.ChangeShapes Go.WideShapes Go.ChangeAt Go.RowKit
open Go.Proofs.YtcoimipgilkmbaaGreatDoor.tt (Cfg Nt na bare zd fits row tyne lt_of U)
open Go.Proofs.YtcoimipgilkmbaaGreatDoor.kk (Ln St zl la ln cfind cdrop cuse cgoes cwrite cturn cput setAt setOf live fF Shp Rac Kept)
open Go.Proofs.YtcoimipgilkmbaaGreatDoor.bk (Bk rem kills puts putE fd fl Nd Rg dead fresh)
open Go.Proofs.YtcoimipgilkmbaaGreatDoor.mrk (Ms rdS wrS meets addE Dom)
open Go.Proofs.YtcoimipgilkmbaaGreatDoor.de (Dl sT gE rF aD)
open Go.Proofs.YtcoimipgilkmbaaGreatDoor.oo (ref)
structure RL where
 q:Nat
 c:kk.RLoc
 br:Nat
 bg:Nat
 mr:Nat
 m1:Nat
 m2:Nat
 dg:Nat
def rc (P:Pm) (R:RL) (a:Nt) (wt:Bool):Array Value:=P.c.cells ++ #[.int .i64 P.core,.pointer (some ⟨R.c.b,0,none⟩),.pointer (some ⟨R.br,0,none⟩),.pointer (some ⟨R.mr,0,none⟩),.pointer (some ⟨R.dg,0,none⟩)] ++ na a ++ #[.bool wt]
structure RN (w:World) (R:RL) (P:Pm) (k:Nr):Prop where
 blk:w.heap[R.q]?=some (.cells (rc P R k.ask k.wt) 73 (0,0))
 ca:Rac w R.c P.c k.ss
 ba:bk.RAt w R.br R.bg P.N P.m k.bs
 mr:mrk.RAt w R.mr R.m1 R.m2 P.N k.ms
 dl:de.Both w R.dg k.d
def RL.any (R:RL) (k:Nat):Prop:=k=R.q ∨ R.c.any k ∨ (k=R.br ∨ k=R.bg) ∨ (k=R.mr ∨ k=R.m1 ∨ k=R.m2) ∨ k=R.dg
theorem rc_lo (P:Pm) (R:RL) (a:Nt) (wt:Bool) {i:Nat} (hi:i < 13):(rc P R a wt)[i]?=(P.c.cells ++ #[.int .i64 P.core,.pointer (some ⟨R.c.b,0,none⟩),.pointer (some ⟨R.br,0,none⟩),.pointer (some ⟨R.mr,0,none⟩),.pointer (some ⟨R.dg,0,none⟩)])[i]?:=by
 unfold rc
 rw [Array.getElem?_append_left (by simp [tt.na_size,Cfg.cells];omega),Array.getElem?_append_left (by simp [Cfg.cells];omega)]
theorem rc_ask (P:Pm) (R:RL) (a:Nt) (wt:Bool) {i:Nat} (hi:i < 24):(rc P R a wt)[13 + i]?=(na a)[i]?:=by
 unfold rc
 rw [Array.getElem?_append_left (by simp [tt.na_size,Cfg.cells];omega),Array.getElem?_append_right (by simp [Cfg.cells])]
 simp [Cfg.cells]
theorem rc_wt (P:Pm) (R:RL) (a:Nt) (wt:Bool):(rc P R a wt)[37]?=some (.bool wt):=by
 unfold rc
 rw [Array.getElem?_append_right (by simp [tt.na_size,Cfg.cells])]
 simp [tt.na_size,Cfg.cells]
theorem rc_size (P:Pm) (R:RL) (a:Nt) (wt:Bool):(rc P R a wt).size=38:=by simp [rc,tt.na_size,Cfg.cells]
def ty (w:World) (g:Nat) (t:TypeId):Prop:=∃ cs fr,w.heap[g]?=some (.cells cs t fr)
theorem ty_ne {w:World} {g h:Nat} {t s:TypeId} (a:ty w g t) (b:ty w h s) (hn:t ≠ s):g ≠ h:=by
 rintro rfl
 obtain ⟨_,_,h1⟩:=a
 obtain ⟨_,_,h2⟩:=b
 rw [h1] at h2
 cases h2
 exact hn rfl
section
variable {w w':World} {R:RL} {P:Pm} {k:Nr} (h:RN w R P k)
include h
theorem RN.tq:ty w R.q 73:=⟨_,_,h.blk⟩
theorem RN.tc:ty w R.c.b 131:=⟨_,_,h.ca.blk⟩
theorem RN.tl:ty w R.c.gl 50:=by obtain ⟨_,h1⟩:=h.ca.row.blk;exact ⟨_,_,h1⟩
theorem RN.tm:ty w R.c.gm 5:=by obtain ⟨_,h1⟩:=h.ca.mb;exact ⟨_,_,h1⟩
theorem RN.tb:ty w R.br 136:=⟨_,_,h.ba.blk⟩
theorem RN.tk:ty w R.bg 133:=by obtain ⟨_,h1⟩:=h.ba.typ;exact ⟨_,_,h1⟩
theorem RN.tr:ty w R.mr 139:=⟨_,_,h.mr.blk⟩
theorem RN.t1:ty w R.m1 4:=by obtain ⟨_,h1,_⟩:=h.mr.rd;exact ⟨_,_,h1⟩
theorem RN.t2:ty w R.m2 4:=by obtain ⟨_,h1,_⟩:=h.mr.wt;exact ⟨_,_,h1⟩
theorem RN.td:ty w R.dg 78:=by obtain ⟨_,_,h1,_⟩:=h.dl;exact ⟨_,_,h1.blk⟩
theorem RN.lt {g:Nat} (hg:R.any g):g < w.heap.size:=by
 rcases hg with rfl | hc | (rfl | rfl) | (rfl | rfl | rfl) | rfl
 ·exact lt_of h.blk
 ·exact h.ca.lt hc
 ·exact lt_of h.ba.blk
 ·obtain ⟨_,h1⟩:=h.ba.typ;exact lt_of h1
 ·exact h.mr.lt
 ·exact h.mr.rd.lt
 ·exact h.mr.wt.lt
 ·exact h.dl.lt
theorem RN.same (hb:∀ g,R.any g→w'.heap[g]?=w.heap[g]?):RN w' R P k:=
 ⟨(hb _ (.inl rfl)).trans h.blk,h.ca.same fun g hg=>hb g (.inr (.inl hg)),h.ba.of_block (hb _ (.inr (.inr (.inl (.inl rfl))))) (hb _ (.inr (.inr (.inl (.inr rfl))))),
  h.mr.of_block (hb _ (.inr (.inr (.inr (.inl (.inl rfl)))))) (hb _ (.inr (.inr (.inr (.inl (.inr (.inl rfl))))))) (hb _ (.inr (.inr (.inr (.inl (.inr (.inr rfl))))))),h.dl.same (hb _ (.inr (.inr (.inr (.inr rfl)))))⟩
theorem RN.grown (hg:w.grownBy w' none):RN w' R P k:=h.same fun g hb=>hg.block g (h.lt hb) (by simp)
theorem RN.cell (i:Nat) (v:Value) (hv:(rc P R k.ask k.wt)[i]?=some v):w.cell? ⟨R.q,i,none⟩=some v:=(cell_of_row _ _ _ _ _ _ h.blk).trans hv
theorem RN.put_ca {ss':List St} (hc:Rac w' R.c P.c ss') (hk:Kept R.c.own w w'):RN w' R P { k with ss:=ss' }:=by
 have hb:∀ g t,ty w g t→t ≠ 50→t ≠ 5→w'.heap[g]?=w.heap[g]?:=fun g t hg h1 h2=>hk.block g (by obtain ⟨_,_,h1⟩:=hg;exact lt_of h1) (fun e=>e.elim (ty_ne hg h.tl h1) (ty_ne hg h.tm h2))
 exact ⟨(hb _ _ h.tq (by decide) (by decide)).trans h.blk,hc,h.ba.of_block (hb _ _ h.tb (by decide) (by decide)) (hb _ _ h.tk (by decide) (by decide)),h.mr.of_block (hb _ _ h.tr (by decide) (by decide)) (hb _ _ h.t1 (by decide) (by decide)) (hb _ _ h.t2 (by decide) (by decide)),h.dl.same (hb _ _ h.td (by decide) (by decide))⟩
theorem RN.put_ba {bs':List Bk} (hc:bk.RAt w' R.br R.bg P.N P.m bs') (hk:w.grownBy w' (some R.bg)):RN w' R P { k with bs:=bs' }:=by
 have hb:∀ g t,ty w g t→t ≠ 133→w'.heap[g]?=w.heap[g]?:=fun g t hg h1=>hk.block g (by obtain ⟨_,_,h1⟩:=hg;exact lt_of h1) (by rintro e;cases e;exact ty_ne hg h.tk h1 rfl)
 refine ⟨(hb _ _ h.tq (by decide)).trans h.blk,h.ca.same ?_,hc,h.mr.of_block (hb _ _ h.tr (by decide)) (hb _ _ h.t1 (by decide)) (hb _ _ h.t2 (by decide)),h.dl.same (hb _ _ h.td (by decide))⟩
 rintro g (rfl | rfl | rfl)
 ·exact hb _ _ h.tc (by decide)
 ·exact hb _ _ h.tl (by decide)
 ·exact hb _ _ h.tm (by decide)
theorem RN.put_mk {ms':Ms} (hc:mrk.RAt w' R.mr R.m1 R.m2 P.N ms') (hk:w.grownBy w' (some R.m1) ∨ w.grownBy w' (some R.m2)):RN w' R P { k with ms:=ms' }:=by
 have hb:∀ g t,ty w g t→t ≠ 4→w'.heap[g]?=w.heap[g]?:=fun g t hg h1=>by
  have hl:g < w.heap.size:=by obtain ⟨_,_,h1⟩:=hg;exact lt_of h1
  rcases hk with hk | hk
  ·exact hk.block g hl (by rintro e;cases e;exact ty_ne hg h.t1 h1 rfl)
  ·exact hk.block g hl (by rintro e;cases e;exact ty_ne hg h.t2 h1 rfl)
 refine ⟨(hb _ _ h.tq (by decide)).trans h.blk,h.ca.same ?_,h.ba.of_block (hb _ _ h.tb (by decide)) (hb _ _ h.tk (by decide)),hc,h.dl.same (hb _ _ h.td (by decide))⟩
 rintro g (rfl | rfl | rfl)
 ·exact hb _ _ h.tc (by decide)
 ·exact hb _ _ h.tl (by decide)
 ·exact hb _ _ h.tm (by decide)
theorem RN.clear {h1 h2:Nat} (hc:mrk.RAt w' R.mr h1 h2 P.N Ms.zero) (hk:w.grownBy w' (some R.mr)):RN w' { R with m1:=h1,m2:=h2 } P { k with ms:=Ms.zero }:=by
 have hb:∀ g t,ty w g t→t ≠ 139→w'.heap[g]?=w.heap[g]?:=fun g t hg h1=>hk.block g (by obtain ⟨_,_,h1⟩:=hg;exact lt_of h1) (by rintro e;cases e;exact ty_ne hg h.tr h1 rfl)
 refine ⟨(hb _ _ h.tq (by decide)).trans h.blk,h.ca.same ?_,h.ba.of_block (hb _ _ h.tb (by decide)) (hb _ _ h.tk (by decide)),hc,h.dl.same (hb _ _ h.td (by decide))⟩
 rintro g (rfl | rfl | rfl)
 ·exact hb _ _ h.tc (by decide)
 ·exact hb _ _ h.tl (by decide)
 ·exact hb _ _ h.tm (by decide)
theorem RN.put_dl {d':Dl} (hc:de.Both w' R.dg d') (hk:w.grownBy w' (some R.dg)):RN w' R P { k with d:=d' }:=by
 have hb:∀ g t,ty w g t→t ≠ 78→w'.heap[g]?=w.heap[g]?:=fun g t hg h1=>hk.block g (by obtain ⟨_,_,h1⟩:=hg;exact lt_of h1) (by rintro e;cases e;exact ty_ne hg h.td h1 rfl)
 refine ⟨(hb _ _ h.tq (by decide)).trans h.blk,h.ca.same ?_,h.ba.of_block (hb _ _ h.tb (by decide)) (hb _ _ h.tk (by decide)),h.mr.of_block (hb _ _ h.tr (by decide)) (hb _ _ h.t1 (by decide)) (hb _ _ h.t2 (by decide)),hc⟩
 rintro g (rfl | rfl | rfl)
 ·exact hb _ _ h.tc (by decide)
 ·exact hb _ _ h.tl (by decide)
 ·exact hb _ _ h.tm (by decide)
theorem RN.put_q {a:Nt} {b:Bool} (hb:w'.heap[R.q]?=some (.cells (rc P R a b) 73 (0,0))) (hk:w.grownBy w' (some R.q)):RN w' R P { k with ask:=a,wt:=b }:=by
 have hn:∀ g t,ty w g t→t ≠ 73→w'.heap[g]?=w.heap[g]?:=fun g t hg h1=>hk.block g (by obtain ⟨_,_,h1⟩:=hg;exact lt_of h1) (by rintro e;cases e;exact ty_ne hg h.tq h1 rfl)
 refine ⟨hb,h.ca.same ?_,h.ba.of_block (hn _ _ h.tb (by decide)) (hn _ _ h.tk (by decide)),h.mr.of_block (hn _ _ h.tr (by decide)) (hn _ _ h.t1 (by decide)) (hn _ _ h.t2 (by decide)),h.dl.same (hn _ _ h.td (by decide))⟩
 rintro g (rfl | rfl | rfl)
 ·exact hn _ _ h.tc (by decide)
 ·exact hn _ _ h.tl (by decide)
 ·exact hn _ _ h.tm (by decide)
theorem RN.c2:w.cell? ⟨R.q,9,none⟩=some (.pointer (some ⟨R.c.b,0,none⟩)):=h.cell 9 _ ((rc_lo _ _ _ _ (by decide)).trans rfl)
theorem RN.c3:w.cell? ⟨R.q,10,none⟩=some (.pointer (some ⟨R.br,0,none⟩)):=h.cell 10 _ ((rc_lo _ _ _ _ (by decide)).trans rfl)
theorem RN.c4:w.cell? ⟨R.q,11,none⟩=some (.pointer (some ⟨R.mr,0,none⟩)):=h.cell 11 _ ((rc_lo _ _ _ _ (by decide)).trans rfl)
theorem RN.c5:w.cell? ⟨R.q,12,none⟩=some (.pointer (some ⟨R.dg,0,none⟩)):=h.cell 12 _ ((rc_lo _ _ _ _ (by decide)).trans rfl)
theorem RN.c1:w.cell? ⟨R.q,8,none⟩=some (.int .i64 P.core):=h.cell 8 _ ((rc_lo _ _ _ _ (by decide)).trans rfl)
theorem RN.cfg:tt.CfgAt w R.q P.c:=⟨h.cell 0 _ ((rc_lo _ _ _ _ (by decide)).trans rfl),h.cell 1 _ ((rc_lo _ _ _ _ (by decide)).trans rfl),h.cell 2 _ ((rc_lo _ _ _ _ (by decide)).trans rfl),h.cell 3 _ ((rc_lo _ _ _ _ (by decide)).trans rfl),h.cell 4 _ ((rc_lo _ _ _ _ (by decide)).trans rfl),h.cell 5 _ ((rc_lo _ _ _ _ (by decide)).trans rfl),h.cell 6 _ ((rc_lo _ _ _ _ (by decide)).trans rfl),h.cell 7 _ ((rc_lo _ _ _ _ (by decide)).trans rfl)⟩
theorem RN.c37:w.cell? ⟨R.q,37,none⟩=some (.bool k.wt):=h.cell 37 _ (rc_wt _ _ _ _)
theorem RN.cask:w.rangeAt R.q 13 (tt.nt k.ask):=fun j v hv=>by
 have hl:j < 24:=by have:=(List.getElem?_eq_some_iff.1 hv).1;rw [tt.nt_len] at this;exact this
 rw [h.cell (13 + j) v ((rc_ask _ _ _ _ hl).trans (by rw [na,List.getElem?_toArray];exact hv))]
theorem RN.de1:w.cell? ⟨R.dg,1,none⟩=some (.int .i64 k.d.de):=h.dl.cells.2.1
end
end Go.Proofs.YtcoimipgilkmbaaGreatDoor.nr

namespace Go.Proofs.YtcoimipgilkmbaaGreatDoor.nr
set_option linter.unusedVariables false
set_option linter.unusedSimpArgs false
set_option maxRecDepth 1000000
set_option maxHeartbeats 16000000
open Go Go.ChangeShapes Go.WideShapes Go.ChangeAt Go.RowKit Go.Shelf
open Go.Proofs.YtcoimipgilkmbaaGreatDoor.tt (Cfg Nt na bare zd fits row tyne lt_of U grown_refl grown_alloc grown_trans grown_setRow grown_new grown_setCells)
open Go.Proofs.YtcoimipgilkmbaaGreatDoor.kk (Ln St zl la ln cfind cdrop cuse cgoes cwrite cturn cput setAt setOf live fF Shp Rac Kept)
open Go.Proofs.YtcoimipgilkmbaaGreatDoor.bk (Bk rem kills puts putE fd fl Nd Rg dead fresh)
open Go.Proofs.YtcoimipgilkmbaaGreatDoor.mrk (Ms rdS wrS meets addE Dom)
open Go.Proofs.YtcoimipgilkmbaaGreatDoor.de (Dl sT gE rF aD)
open Go.Proofs.YtcoimipgilkmbaaGreatDoor.oo (ref)
theorem ret_pair {a b c d:Int} (h1:a=c) (h2:b=d):Ending.returned (.tuple #[.int .u32 a,.int .i64 b])=Ending.returned (.tuple #[.int .u32 c,.int .i64 d]):=by rw [h1,h2]
theorem own_any {R:RL} {k:Nat} (h:R.c.own k):R.any k:= .inr (.inl (.inr h))
theorem Kept.any {R:RL} {w w':World} (h:Kept R.c.own w w'):Kept R.any w w':=⟨h.os,h.tape,h.output,h.size,fun k hk hn=>h.block k hk (fun e=>hn (own_any e))⟩
theorem any_m1 (R:RL):R.any R.m1:= .inr (.inr (.inr (.inl (.inr (.inl rfl)))))
theorem any_m2 (R:RL):R.any R.m2:= .inr (.inr (.inr (.inl (.inr (.inr rfl)))))
section
variable {w:World} {R:RL} {P:Pm} {k:Nr} (h:RN w R P k) (I:Inv P k)
include h I
theorem rload_none (b i:Int) (hf:(cfind P.c k.ss b).2=false):Calls Tryz.prog 69 #[.pointer (some ⟨R.q,0,none⟩),.int .i64 b,.int .i64 i] w fun e w'=>e = .returned (.tuple #[.int .u32 0,.int .i64 4])∧w.grownBy w' none:=by
 have c2:=h.c2
 have HF:=qh (kk.rfind_any R.c P.c k.ss w h.ca I.ch b)
 rw [hf] at HF
 obtain ⟨l,hl⟩:∃ l,(cfind P.c k.ss b).1=l:=⟨_,rfl⟩
 rw [hl] at HF
 have HZ:Hid (la zl=_):=qh kk.zl_la
 have HB:Hid (∀ w1:World,(w1.alloc (.cells (la zl) 50)).heap[w1.heap.size]?=some (.cells (la zl) 50 (0,0))):=qh fun w1=>heap_alloc_new _ _
 have HG:Hid (∀ w1:World,w.grownBy w1 none→w.grownBy ((w1.alloc (.cells (la zl) 50)).setRow w1.heap.size (la l)) none):=qh fun w1 hg=>kk.grown_setRow (grown_alloc hg _) _ hg.size _
 rw [HZ.out] at HB HG
 clear h I hf hl
 go_enter Tryz.func69,Tryz.ntmps69
 go_wp2_with (first
  | (go_at_call 32;((with_reducible refine HF.out.mono ?_);rintro e w1 ⟨rfl,hg1⟩;have H1:=qh (HG.out w1 hg1);have HB1:=qh (HB.out w1);clear hg1 HF HG HB))
  | ((with_reducible refine kk.store_any l zl 8 17 w1.heap.size ?_ ?_ ?_ ?_);((rfl));((rfl));((exact HB1.out))))
 go_ret2
 exact ⟨rfl,H1.out⟩
theorem rload_out (b i:Int) (hf:(cfind P.c k.ss b).2=true) (hi:i < 0 ∨ 15 < i):Calls Tryz.prog 69 #[.pointer (some ⟨R.q,0,none⟩),.int .i64 b,.int .i64 i] w fun e w'=>e = .returned (.tuple #[.int .u32 0,.int .i64 5])∧w.grownBy w' none:=by
 have c2:=h.c2
 have HF:=qh (kk.rfind_any R.c P.c k.ss w h.ca I.ch b)
 rw [hf] at HF
 obtain ⟨l,hl⟩:∃ l,(cfind P.c k.ss b).1=l:=⟨_,rfl⟩
 rw [hl] at HF
 have HZ:Hid (la zl=_):=qh kk.zl_la
 have HB:Hid (∀ w1:World,(w1.alloc (.cells (la zl) 50)).heap[w1.heap.size]?=some (.cells (la zl) 50 (0,0))):=qh fun w1=>heap_alloc_new _ _
 have HG:Hid (∀ w1:World,w.grownBy w1 none→w.grownBy ((w1.alloc (.cells (la zl) 50)).setRow w1.heap.size (la l)) none):=qh fun w1 hg=>kk.grown_setRow (grown_alloc hg _) _ hg.size _
 rw [HZ.out] at HB HG
 by_cases h0:i < 0
 ·have d0:decide (i < 0)=true:=by simp [h0]
  clear h I hf hl hi h0
  go_enter Tryz.func69,Tryz.ntmps69
  go_wp2_with (first
   | (go_at_call 32;((with_reducible refine HF.out.mono ?_);rintro e w1 ⟨rfl,hg1⟩;have H1:=qh (HG.out w1 hg1);have HB1:=qh (HB.out w1);clear hg1 HF HG HB))
   | ((with_reducible refine kk.store_any l zl 8 17 w1.heap.size ?_ ?_ ?_ ?_);((rfl));((rfl));((exact HB1.out))))
  go_ret2
  exact ⟨rfl,H1.out⟩
 ·have d0:decide (i < 0)=false:=by simp [h0]
  have d1:decide (15 < i)=true:=by simp;omega
  clear h I hf hl hi h0
  go_enter Tryz.func69,Tryz.ntmps69
  go_wp2_with (first
   | (go_at_call 32;((with_reducible refine HF.out.mono ?_);rintro e w1 ⟨rfl,hg1⟩;have H1:=qh (HG.out w1 hg1);have HB1:=qh (HB.out w1);clear hg1 HF HG HB))
   | ((with_reducible refine kk.store_any l zl 8 17 w1.heap.size ?_ ?_ ?_ ?_);((rfl));((rfl));((exact HB1.out))))
  go_ret2
  exact ⟨rfl,H1.out⟩
theorem rload_ok (b:Int) (m:Nat) (hm:m < 16) (hf:(cfind P.c k.ss b).2=true):Calls Tryz.prog 69 #[.pointer (some ⟨R.q,0,none⟩),.int .i64 b,.int .i64 (m:Int)] w fun e w'=>e = .returned (.tuple #[.int .u32 ((cfind P.c k.ss b).1.d.getD m 0),.int .i64 0])∧RN w' R P { k with ss:=(cuse P.c k.ss b).1,ms:=if 0 < k.d.de then rdS P.N k.ms b else k.ms }∧Kept R.any w w':=by
 have c2:=h.c2
 have HF:=qh (kk.rfind_any R.c P.c k.ss w h.ca I.ch b)
 rw [hf] at HF
 have hd16:=(cfind P.c k.ss b).1.h
 obtain ⟨l,hl⟩:∃ l,(cfind P.c k.ss b).1=l:=⟨_,rfl⟩
 rw [hl] at HF hd16
 rw [hl]
 have HZ:Hid (la zl=_):=qh kk.zl_la
 have HB:Hid (∀ w1:World,(w1.alloc (.cells (la zl) 50)).heap[w1.heap.size]?=some (.cells (la zl) 50 (0,0))):=qh fun w1=>heap_alloc_new _ _
 have HU:Hid (∀ w1:World,w.grownBy w1 none→Calls Tryz.prog 111 #[.pointer (some ⟨R.c.b,0,none⟩),.int .i64 b] ((w1.alloc (.cells (la zl) 50)).setRow w1.heap.size (la l)) fun e w'=>(∃ v,e = .returned (.bool v))∧(RN w' R P { k with ss:=(cuse P.c k.ss b).1 }∧Kept R.any w w')∧w'.rangeAt w1.heap.size 0 (ln l)):=qh fun w1 hg=>by
  have hg2:w.grownBy ((w1.alloc (.cells (la zl) 50)).setRow w1.heap.size (la l)) none:=kk.grown_setRow (grown_alloc hg _) _ hg.size _
  have h2:=h.grown hg2
  have hb:((w1.alloc (.cells (la zl) 50)).setRow w1.heap.size (la l)).heap[w1.heap.size]?=some (.cells (la l) 50 (0,0)):=setRow_heap _ _ _ _ _ _ (heap_alloc_new _ _)
  refine (kk.ruse_any R.c P.c k.ss _ h2.ca I.ch b).mono fun e w' hh=>⟨⟨_,hh.1⟩,⟨h2.put_ca hh.2.1 hh.2.2,(Kept.of hg2).trans (Kept.any hh.2.2)⟩,kk.range_of ((hh.2.2.block _ (lt_of hb) ?_).trans hb)⟩
  intro ho
  have:=h.lt (own_any ho)
  have:=hg.size
  omega
 have HD:Hid (∀ w1:World,w.grownBy w1 none→((w1.alloc (.cells (la zl) 50)).setRow w1.heap.size (la l)).cell? ⟨R.q,9,none⟩=some (.pointer (some ⟨R.c.b,0,none⟩))):=qh fun w1 hg=>(h.grown (kk.grown_setRow (grown_alloc hg _) _ hg.size _)).c2
 rw [HZ.out] at HB HU HD
 obtain ⟨x,hx⟩:∃ x,l.d.getD m 0=x:=⟨_,rfl⟩
 have hget:l.d[m]?=some x:=by rw [← hx,List.getD_eq_getElem?_getD,List.getElem?_eq_getElem (by omega)];rfl
 have HX:Hid (∀ (W:World) (g:Nat),W.rangeAt g 0 (ln l)→W.cell? ⟨g,2 + m,none⟩=some (.int .u32 x)):=qh fun W g hr=>by
  have:=hr (2 + m) (.int .u32 x) (by rw [kk.ln,show 2 + m=m + 2 from Nat.add_comm _ _];simp [hget,U])
  simpa using this
 rw [hx]
 have hm2:(m:Int) < 16:=by omega
 have d0:decide ((m:Int) < 0)=false:=by simp
 have d1:decide (15 < (m:Int))=false:=by simp;omega
 have HRD:Hid (∀ w2:World,RN w2 R P { k with ss:=(cuse P.c k.ss b).1 }∧Kept R.any w w2→∀ g,w2.rangeAt g 0 (ln l)→R.m1 ≠ g→Calls Tryz.prog 112 #[.pointer (some ⟨R.mr,0,none⟩),.int .i64 b] w2 fun e w'=>(∃ v,e = .returned (.int .i64 v))∧(RN w' R P { k with ss:=(cuse P.c k.ss b).1,ms:=rdS P.N k.ms b }∧Kept R.any w w')∧w'.rangeAt g 0 (ln l)):=qh fun w2 ⟨h2,k2⟩ g hr hn=>
  (mrk.rread_any h2.mr b).mono fun e w' hh=>⟨⟨_,hh.1⟩,⟨h2.put_mk hh.2.1 (.inl hh.2.2),k2.trans (Kept.one hh.2.2 (any_m1 R))⟩,tt.range_grown hr hh.2.2 (by simpa using hn.symm)⟩
 have hm1:=h.lt (any_m1 R)
 obtain ⟨sz,hsz⟩:∃ n,w.heap.size=n:=⟨_,rfl⟩
 rw [hsz] at hm1
 have HS:Hid (∀ w1:World,w.grownBy w1 none→R.m1 ≠ w1.heap.size):=qh fun w1 hg=>by have:=hg.size;omega
 obtain ⟨de,hde⟩:∃ de,k.d.de=de:=⟨_,rfl⟩
 have HC:Hid (∀ w2:World,RN w2 R P { k with ss:=(cuse P.c k.ss b).1 }→w2.cell? ⟨R.q,12,none⟩=some (.pointer (some ⟨R.dg,0,none⟩))∧w2.cell? ⟨R.dg,1,none⟩=some (.int .i64 de)∧w2.cell? ⟨R.q,11,none⟩=some (.pointer (some ⟨R.mr,0,none⟩))):=qh fun w2 h2=>⟨h2.c5,hde ▸ h2.de1,h2.c4⟩
 rw [hde]
 by_cases hz:0 < de
 ·have d2:decide (0 < de)=true:=by simp [hz]
  rw [if_pos hz]
  clear h I hf hl hx hget hm hd16 hsz hm1 hde hz
  go_enter Tryz.func69,Tryz.ntmps69
  go_wp2_with (first
   | (go_at_call 32;((with_reducible refine HF.out.mono ?_);rintro e w1 ⟨rfl,hg1⟩;have H1:=qh hg1;have HU1:=qh (HU.out w1 hg1);have HB1:=qh (HB.out w1);have cd:=HD.out w1 hg1;have HS1:=qh (HS.out w1 hg1);clear hg1 HF HB HU HS HD))
   | ((with_reducible refine kk.store_any l zl 8 17 w1.heap.size ?_ ?_ ?_ ?_);((rfl));((rfl));((exact HB1.out)))
   | (go_at_call 111;((with_reducible refine HU1.out.mono ?_);rintro e w2 ⟨⟨v,rfl⟩,hh,hr⟩;have HR2:=qh (HRD.out w2 hh _ hr HS1.out);obtain ⟨c12,cde,c11⟩:=HC.out w2 hh.1;clear hh hr HU1))
   | (go_at_call 112;((with_reducible refine HR2.out.mono ?_);rintro e w3 ⟨⟨v3,rfl⟩,hh3,hr3⟩;have H3:=qh hh3;have cx:=HX.out w3 _ hr3;clear hh3 hr3 HR2)))
  all_goals first
   | (exfalso;omega)
   | (go_ret2;exact ⟨rfl,H3.out⟩)
 ·have d2:decide (0 < de)=false:=by simp [hz]
  rw [if_neg hz]
  clear h I hf hl hx hget hm hd16 hsz hm1 hde hz
  go_enter Tryz.func69,Tryz.ntmps69
  go_wp2_with (first
   | (go_at_call 32;((with_reducible refine HF.out.mono ?_);rintro e w1 ⟨rfl,hg1⟩;have HU1:=qh (HU.out w1 hg1);have HB1:=qh (HB.out w1);have cd:=HD.out w1 hg1;clear hg1 HF HB HU HS HD))
   | ((with_reducible refine kk.store_any l zl 8 17 w1.heap.size ?_ ?_ ?_ ?_);((rfl));((rfl));((exact HB1.out)))
   | (go_at_call 111;((with_reducible refine HU1.out.mono ?_);rintro e w2 ⟨⟨v,rfl⟩,hh,hr⟩;have H3:=qh hh;have cx:=HX.out w2 _ hr;obtain ⟨c12,cde,c11⟩:=HC.out w2 hh.1;clear hh hr HU1)))
  all_goals first
   | (exfalso;omega)
   | (go_ret2;exact ⟨rfl,H3.out⟩)
end
end Go.Proofs.YtcoimipgilkmbaaGreatDoor.nr

namespace Go.Proofs.YtcoimipgilkmbaaGreatDoor.nr
set_option linter.unusedVariables false
set_option linter.unusedSimpArgs false
set_option maxRecDepth 1000000
set_option maxHeartbeats 16000000
open Go Go.ChangeShapes Go.WideShapes Go.ChangeAt Go.RowKit Go.Shelf
open Go.Proofs.YtcoimipgilkmbaaGreatDoor.tt (Cfg Nt na bare zd fits row tyne lt_of U grown_refl grown_alloc grown_trans grown_setRow grown_new grown_setCells)
open Go.Proofs.YtcoimipgilkmbaaGreatDoor.kk (Ln St zl la ln cfind cdrop cuse cgoes cwrite cturn cput setAt setOf live fF Shp Rac Kept)
open Go.Proofs.YtcoimipgilkmbaaGreatDoor.bk (Bk rem kills puts putE fd fl Nd Rg dead fresh)
open Go.Proofs.YtcoimipgilkmbaaGreatDoor.mrk (Ms rdS wrS meets addE Dom)
open Go.Proofs.YtcoimipgilkmbaaGreatDoor.de (Dl sT gE rF aD)
open Go.Proofs.YtcoimipgilkmbaaGreatDoor.oo (ref)
section
variable {w:World} {R:RL} {P:Pm} {k:Nr} (h:RN w R P k) (I:Inv P k)
include h I
theorem rstore_none (b i x:Int) (hf:(cfind P.c k.ss b).2=false):Calls Tryz.prog 70 #[.pointer (some ⟨R.q,0,none⟩),.int .i64 b,.int .i64 i,.int .u32 x] w fun e w'=>e = .returned (.tuple #[.int .u32 0,.int .i64 4])∧w.grownBy w' none:=by
 have c2:=h.c2
 have HF:=qh (kk.rfind_any R.c P.c k.ss w h.ca I.ch b)
 rw [hf] at HF
 obtain ⟨l,hl⟩:∃ l,(cfind P.c k.ss b).1=l:=⟨_,rfl⟩
 rw [hl] at HF
 have HZ:Hid (la zl=_):=qh kk.zl_la
 have HB:Hid (∀ w1:World,(w1.alloc (.cells (la zl) 50)).heap[w1.heap.size]?=some (.cells (la zl) 50 (0,0))):=qh fun w1=>heap_alloc_new _ _
 have HG:Hid (∀ w1:World,w.grownBy w1 none→w.grownBy ((w1.alloc (.cells (la zl) 50)).setRow w1.heap.size (la l)) none):=qh fun w1 hg=>kk.grown_setRow (grown_alloc hg _) _ hg.size _
 rw [HZ.out] at HB HG
 clear h I hf hl
 go_enter Tryz.func70,Tryz.ntmps70
 go_wp2_with (first
  | (go_at_call 32;((with_reducible refine HF.out.mono ?_);rintro e w1 ⟨rfl,hg1⟩;have H1:=qh (HG.out w1 hg1);have HB1:=qh (HB.out w1);clear hg1 HF HG HB))
  | ((with_reducible refine kk.store_any l zl 10 20 w1.heap.size ?_ ?_ ?_ ?_);((rfl));((rfl));((exact HB1.out))))
 go_ret2
 exact ⟨rfl,H1.out⟩
theorem rstore_ok (b:Int) (m:Nat) (x:Int) (hm:m < 16) (h0:(cwrite P.c k.ss b m x).2=0) (hf:(cfind P.c k.ss b).2=true):Calls Tryz.prog 70 #[.pointer (some ⟨R.q,0,none⟩),.int .i64 b,.int .i64 (m:Int),.int .u32 x] w fun e w'=>e = .returned (.tuple #[.int .u32 ((cfind P.c k.ss b).1.d.getD m 0),.int .i64 0])∧RN w' R P { k with ss:=(cwrite P.c k.ss b m x).1,ms:=if 0 < k.d.de then wrS P.N k.ms b else k.ms }∧Kept R.any w w':=by
 have c2:=h.c2
 have HF:=qh (kk.rfind_any R.c P.c k.ss w h.ca I.ch b)
 rw [hf] at HF
 have hd16:=(cfind P.c k.ss b).1.h
 obtain ⟨l,hl⟩:∃ l,(cfind P.c k.ss b).1=l:=⟨_,rfl⟩
 rw [hl] at HF hd16
 rw [hl]
 have HZ:Hid (la zl=_):=qh kk.zl_la
 have HB:Hid (∀ w1:World,(w1.alloc (.cells (la zl) 50)).heap[w1.heap.size]?=some (.cells (la zl) 50 (0,0))):=qh fun w1=>heap_alloc_new _ _
 have HU:Hid (∀ w1:World,w.grownBy w1 none→Calls Tryz.prog 113 #[.pointer (some ⟨R.c.b,0,none⟩),.int .i64 b,.int .i64 (m:Int),.int .u32 x] ((w1.alloc (.cells (la zl) 50)).setRow w1.heap.size (la l)) fun e w'=>e = .returned (.int .i64 0)∧(RN w' R P { k with ss:=(cwrite P.c k.ss b m x).1 }∧Kept R.any w w')∧w'.rangeAt w1.heap.size 0 (ln l)):=qh fun w1 hg=>by
  have hg2:w.grownBy ((w1.alloc (.cells (la zl) 50)).setRow w1.heap.size (la l)) none:=kk.grown_setRow (grown_alloc hg _) _ hg.size _
  have h2:=h.grown hg2
  have hb:((w1.alloc (.cells (la zl) 50)).setRow w1.heap.size (la l)).heap[w1.heap.size]?=some (.cells (la l) 50 (0,0)):=setRow_heap _ _ _ _ _ _ (heap_alloc_new _ _)
  refine (kk.rwrite_any R.c P.c k.ss _ h2.ca I.ch b m x).mono fun e w' hh=>⟨by rw [hh.1,h0],⟨h2.put_ca hh.2.1 hh.2.2,(Kept.of hg2).trans (Kept.any hh.2.2)⟩,kk.range_of ((hh.2.2.block _ (lt_of hb) ?_).trans hb)⟩
  intro ho
  have:=h.lt (own_any ho)
  have:=hg.size
  omega
 have HD:Hid (∀ w1:World,w.grownBy w1 none→((w1.alloc (.cells (la zl) 50)).setRow w1.heap.size (la l)).cell? ⟨R.q,9,none⟩=some (.pointer (some ⟨R.c.b,0,none⟩))):=qh fun w1 hg=>(h.grown (kk.grown_setRow (grown_alloc hg _) _ hg.size _)).c2
 rw [HZ.out] at HB HU HD
 obtain ⟨y,hx⟩:∃ y,l.d.getD m 0=y:=⟨_,rfl⟩
 have hget:l.d[m]?=some y:=by rw [← hx,List.getD_eq_getElem?_getD,List.getElem?_eq_getElem (by omega)];rfl
 have HX:Hid (∀ (W:World) (g:Nat),W.rangeAt g 0 (ln l)→W.cell? ⟨g,2 + m,none⟩=some (.int .u32 y)):=qh fun W g hr=>by
  have:=hr (2 + m) (.int .u32 y) (by rw [kk.ln,show 2 + m=m + 2 from Nat.add_comm _ _];simp [hget,U])
  simpa using this
 rw [hx]
 have hmq:(m:Int) < 16:=by omega
 have HRD:Hid (∀ w2:World,RN w2 R P { k with ss:=(cwrite P.c k.ss b m x).1 }∧Kept R.any w w2→∀ g,w2.rangeAt g 0 (ln l)→R.m2 ≠ g→Calls Tryz.prog 114 #[.pointer (some ⟨R.mr,0,none⟩),.int .i64 b] w2 fun e w'=>(∃ v,e = .returned (.int .i64 v))∧(RN w' R P { k with ss:=(cwrite P.c k.ss b m x).1,ms:=wrS P.N k.ms b }∧Kept R.any w w')∧w'.rangeAt g 0 (ln l)):=qh fun w2 ⟨h2,k2⟩ g hr hn=>
  (mrk.rwrite_any h2.mr b).mono fun e w' hh=>⟨⟨_,hh.1⟩,⟨h2.put_mk hh.2.1 (.inr hh.2.2),k2.trans (Kept.one hh.2.2 (any_m2 R))⟩,tt.range_grown hr hh.2.2 (by simpa using hn.symm)⟩
 have hm2:=h.lt (any_m2 R)
 obtain ⟨sz,hsz⟩:∃ n,w.heap.size=n:=⟨_,rfl⟩
 rw [hsz] at hm2
 have HS:Hid (∀ w1:World,w.grownBy w1 none→R.m2 ≠ w1.heap.size):=qh fun w1 hg=>by have:=hg.size;omega
 obtain ⟨de,hde⟩:∃ de,k.d.de=de:=⟨_,rfl⟩
 have HC:Hid (∀ w2:World,RN w2 R P { k with ss:=(cwrite P.c k.ss b m x).1 }→w2.cell? ⟨R.q,12,none⟩=some (.pointer (some ⟨R.dg,0,none⟩))∧w2.cell? ⟨R.dg,1,none⟩=some (.int .i64 de)∧w2.cell? ⟨R.q,11,none⟩=some (.pointer (some ⟨R.mr,0,none⟩))):=qh fun w2 h2=>⟨h2.c5,hde ▸ h2.de1,h2.c4⟩
 rw [hde]
 by_cases hz:0 < de
 ·have d2:decide (0 < de)=true:=by simp [hz]
  rw [if_pos hz]
  clear h I hf hl hx hget hm hd16 hsz hm2 hde hz h0
  go_enter Tryz.func70,Tryz.ntmps70
  go_wp2_with (first
   | (go_at_call 32;((with_reducible refine HF.out.mono ?_);rintro e w1 ⟨rfl,hg1⟩;have H1:=qh hg1;have HU1:=qh (HU.out w1 hg1);have HB1:=qh (HB.out w1);have cd:=HD.out w1 hg1;have HS1:=qh (HS.out w1 hg1);clear hg1 HF HB HU HS HD))
   | ((with_reducible refine kk.store_any l zl 10 20 w1.heap.size ?_ ?_ ?_ ?_);((rfl));((rfl));((exact HB1.out)))
   | (go_at_call 113;((with_reducible refine HU1.out.mono ?_);rintro e w2 ⟨rfl,hh,hr⟩;have HR2:=qh (HRD.out w2 hh _ hr HS1.out);obtain ⟨c12,cde,c11⟩:=HC.out w2 hh.1;clear hh hr HU1))
   | (go_at_call 114;((with_reducible refine HR2.out.mono ?_);rintro e w3 ⟨⟨v3,rfl⟩,hh3,hr3⟩;have H3:=qh hh3;have cx:=HX.out w3 _ hr3;clear hh3 hr3 HR2)))
  all_goals first
   | (exfalso;omega)
   | (go_ret2;exact ⟨rfl,H3.out⟩)
 ·have d2:decide (0 < de)=false:=by simp [hz]
  rw [if_neg hz]
  clear h I hf hl hx hget hm hd16 hsz hm2 hde hz h0
  go_enter Tryz.func70,Tryz.ntmps70
  go_wp2_with (first
   | (go_at_call 32;((with_reducible refine HF.out.mono ?_);rintro e w1 ⟨rfl,hg1⟩;have HU1:=qh (HU.out w1 hg1);have HB1:=qh (HB.out w1);have cd:=HD.out w1 hg1;clear hg1 HF HB HU HS HD))
   | ((with_reducible refine kk.store_any l zl 10 20 w1.heap.size ?_ ?_ ?_ ?_);((rfl));((rfl));((exact HB1.out)))
   | (go_at_call 113;((with_reducible refine HU1.out.mono ?_);rintro e w2 ⟨rfl,hh,hr⟩;have H3:=qh hh;have cx:=HX.out w2 _ hr;obtain ⟨c12,cde,c11⟩:=HC.out w2 hh.1;clear hh hr HU1)))
  all_goals first
   | (exfalso;omega)
   | (go_ret2;exact ⟨rfl,H3.out⟩)
theorem rstore_bad (b i x:Int) (hf:(cfind P.c k.ss b).2=true) (h0:(cwrite P.c k.ss b i x).2 ≠ 0):Calls Tryz.prog 70 #[.pointer (some ⟨R.q,0,none⟩),.int .i64 b,.int .i64 i,.int .u32 x] w fun e w'=>e = .returned (.tuple #[.int .u32 0,.int .i64 (cwrite P.c k.ss b i x).2])∧RN w' R P { k with ss:=(cwrite P.c k.ss b i x).1 }∧Kept R.any w w':=by
 have c2:=h.c2
 have HF:=qh (kk.rfind_any R.c P.c k.ss w h.ca I.ch b)
 rw [hf] at HF
 obtain ⟨l,hl⟩:∃ l,(cfind P.c k.ss b).1=l:=⟨_,rfl⟩
 rw [hl] at HF
 obtain ⟨ec,hec⟩:∃ ec,(cwrite P.c k.ss b i x).2=ec:=⟨_,rfl⟩
 have HZ:Hid (la zl=_):=qh kk.zl_la
 have HB:Hid (∀ w1:World,(w1.alloc (.cells (la zl) 50)).heap[w1.heap.size]?=some (.cells (la zl) 50 (0,0))):=qh fun w1=>heap_alloc_new _ _
 have HU:Hid (∀ w1:World,w.grownBy w1 none→Calls Tryz.prog 113 #[.pointer (some ⟨R.c.b,0,none⟩),.int .i64 b,.int .i64 i,.int .u32 x] ((w1.alloc (.cells (la zl) 50)).setRow w1.heap.size (la l)) fun e w'=>e = .returned (.int .i64 ec)∧(RN w' R P { k with ss:=(cwrite P.c k.ss b i x).1 }∧Kept R.any w w')):=qh fun w1 hg=>by
  have hg2:w.grownBy ((w1.alloc (.cells (la zl) 50)).setRow w1.heap.size (la l)) none:=kk.grown_setRow (grown_alloc hg _) _ hg.size _
  have h2:=h.grown hg2
  exact (kk.rwrite_any R.c P.c k.ss _ h2.ca I.ch b i x).mono fun e w' hh=>⟨by rw [hh.1,hec],h2.put_ca hh.2.1 hh.2.2,(Kept.of hg2).trans (Kept.any hh.2.2)⟩
 have HD:Hid (∀ w1:World,w.grownBy w1 none→((w1.alloc (.cells (la zl) 50)).setRow w1.heap.size (la l)).cell? ⟨R.q,9,none⟩=some (.pointer (some ⟨R.c.b,0,none⟩))):=qh fun w1 hg=>(h.grown (kk.grown_setRow (grown_alloc hg _) _ hg.size _)).c2
 rw [HZ.out] at HB HU HD
 rw [hec]
 have hn:(ec != 0)=true:=by simpa using fun e=>h0 (hec.trans e)
 clear h I hf hl h0 hec
 go_enter Tryz.func70,Tryz.ntmps70
 go_wp2_with (first
  | (go_at_call 32;((with_reducible refine HF.out.mono ?_);rintro e w1 ⟨rfl,hg1⟩;have HU1:=qh (HU.out w1 hg1);have HB1:=qh (HB.out w1);have cd:=HD.out w1 hg1;clear hg1 HF HB HU HD))
  | ((with_reducible refine kk.store_any l zl 10 20 w1.heap.size ?_ ?_ ?_ ?_);((rfl));((rfl));((exact HB1.out)))
  | (go_at_call 113;((with_reducible refine HU1.out.mono ?_);rintro e w2 ⟨rfl,hh⟩;have H3:=qh hh;clear hh HU1)))
 go_ret2
 exact ⟨rfl,H3.out⟩
omit h I in
theorem cwrite_none {b:Int} (i x:Int) (hf:(cfind P.c k.ss b).2=false):cwrite P.c k.ss b i x=(k.ss,4):=by
 unfold cfind at hf
 unfold cwrite
 cases hx:(setAt P.c k.ss b).1.findIdx? (kk.isOf b) with
 | none=>rfl
 | some j=>simp only [hx] at hf;cases hf
omit h I in
theorem cwrite_keep {b:Int} (i x:Int) (h0:(cwrite P.c k.ss b i x).2 ≠ 0):(cwrite P.c k.ss b i x).1=k.ss:=by
 unfold cwrite at h0 ⊢
 split
 ·rfl
 ·split
  ·split
   ·rfl
   ·rename_i j hj a c
    rw [hj] at h0
    simp only [if_pos a,if_neg c] at h0
    exact (h0 rfl).elim
  ·rfl
omit h I in
theorem cwrite_ok {b:Int} (i x:Int) (h0:(cwrite P.c k.ss b i x).2=0):0 ≤ i∧i < 16:=by
 by_cases hi:0 ≤ i∧i < 16
 ·exact hi
 ·exfalso
  unfold cwrite at h0
  cases hx:(setAt P.c k.ss b).1.findIdx? (kk.isOf b) with
  | none=>rw [hx] at h0;cases h0
  | some j=>rw [hx] at h0;simp only [if_neg hi] at h0;cases h0
theorem rstore_any (b i x:Int):Calls Tryz.prog 70 #[.pointer (some ⟨R.q,0,none⟩),.int .i64 b,.int .i64 i,.int .u32 x] w fun e w'=>e = .returned (.tuple #[.int .u32 (storeV P k b i x),.int .i64 (storeE P k b i x)])∧RN w' R P (storeS P k b i x)∧Kept R.any w w':=by
 cases hf:(cfind P.c k.ss b).2
 ·have hc:=cwrite_none (P:=P) (k:=k) i x hf
  have hE:storeE P k b i x=4:=by unfold storeE;rw [hc]
  have hV:storeV P k b i x=0:=by unfold storeV;rw [hE];rfl
  have hS:storeS P k b i x=k:=by unfold storeS;rw [hE];rfl
  rw [hE,hV,hS]
  exact (rstore_none h I b i x hf).mono fun e w' hh=>⟨hh.1,h.grown hh.2,Kept.of hh.2⟩
 ·by_cases h0:(cwrite P.c k.ss b i x).2=0
  ·have hE:storeE P k b i x=0:=h0
   have hV:storeV P k b i x=(cfind P.c k.ss b).1.d.getD i.toNat 0:=by unfold storeV;rw [if_pos hE]
   have hS:storeS P k b i x={ k with ss:=(cwrite P.c k.ss b i x).1,ms:=if 0 < k.d.de then wrS P.N k.ms b else k.ms }:=by unfold storeS;rw [if_pos hE]
   obtain ⟨i0,i1⟩:=cwrite_ok i x h0
   rw [hE,hV,hS]
   have hi:i=((i.toNat:Nat):Int):=by omega
   have:=rstore_ok h I b i.toNat x (by omega) (by rw [← hi];exact h0) hf
   rw [← hi] at this
   exact this
  ·have hE:storeE P k b i x ≠ 0:=h0
   have hV:storeV P k b i x=0:=by unfold storeV;rw [if_neg hE]
   have hS:storeS P k b i x=k:=by unfold storeS;rw [if_neg hE]
   rw [hV,hS]
   refine (rstore_bad h I b i x hf h0).mono fun e w' hh=>⟨hh.1,?_,hh.2.2⟩
   have:=hh.2.1
   rw [cwrite_keep i x h0] at this
   exact this
theorem rload_any (b i:Int):Calls Tryz.prog 69 #[.pointer (some ⟨R.q,0,none⟩),.int .i64 b,.int .i64 i] w fun e w'=>e = .returned (.tuple #[.int .u32 (loadV P k b i),.int .i64 (loadE P k b i)])∧RN w' R P (loadS P k b i)∧Kept R.any w w':=by
 cases hf:(cfind P.c k.ss b).2
 ·have hE:loadE P k b i=4:=by unfold loadE;rw [if_pos hf]
  have hV:loadV P k b i=0:=by unfold loadV;rw [hE];rfl
  have hS:loadS P k b i=k:=by unfold loadS;rw [hE];rfl
  rw [hE,hV,hS]
  exact (rload_none h I b i hf).mono fun e w' hh=>⟨hh.1,h.grown hh.2,Kept.of hh.2⟩
 ·by_cases hi:i < 0 ∨ 15 < i
  ·have hE:loadE P k b i=5:=by unfold loadE;rw [if_neg (by rw [hf];decide),if_pos hi]
   have hV:loadV P k b i=0:=by unfold loadV;rw [hE];rfl
   have hS:loadS P k b i=k:=by unfold loadS;rw [hE];rfl
   rw [hE,hV,hS]
   exact (rload_out h I b i hf hi).mono fun e w' hh=>⟨hh.1,h.grown hh.2,Kept.of hh.2⟩
  ·have hE:loadE P k b i=0:=by unfold loadE;rw [if_neg (by rw [hf];decide),if_neg hi]
   have hV:loadV P k b i=(cfind P.c k.ss b).1.d.getD i.toNat 0:=by unfold loadV;rw [if_pos hE]
   have hS:loadS P k b i={ k with ss:=(cuse P.c k.ss b).1,ms:=if 0 < k.d.de then rdS P.N k.ms b else k.ms }:=by unfold loadS;rw [if_pos hE]
   rw [hE,hV,hS]
   have hi2:i=((i.toNat:Nat):Int):=by omega
   have:=rload_ok h I b i.toNat (by omega) hf
   rw [← hi2] at this
   exact this
end
end Go.Proofs.YtcoimipgilkmbaaGreatDoor.nr

namespace Go.Proofs.YtcoimipgilkmbaaGreatDoor.nr
set_option linter.unusedVariables false
set_option linter.unusedSimpArgs false
set_option maxRecDepth 1000000
set_option maxHeartbeats 16000000
open Go Go.ChangeShapes Go.WideShapes Go.ChangeAt Go.RowKit Go.Shelf
open Go.Proofs.YtcoimipgilkmbaaGreatDoor.tt (Cfg Nt na nt zn bare zd fits row tyne lt_of U grown_refl grown_alloc grown_trans grown_new grown_setCells grown_drew grown_drewN)
open Go.Proofs.YtcoimipgilkmbaaGreatDoor.kk (Ln St zl la ln cfind cdrop cuse cgoes cwrite cturn cput setAt setOf live fF Shp Rac Kept)
open Go.Proofs.YtcoimipgilkmbaaGreatDoor.bk (Bk rem kills puts putE fd fl Nd Rg dead fresh)
open Go.Proofs.YtcoimipgilkmbaaGreatDoor.mrk (Ms rdS wrS meets addE Dom)
open Go.Proofs.YtcoimipgilkmbaaGreatDoor.de (Dl sT gE rF aD)
open Go.Proofs.YtcoimipgilkmbaaGreatDoor.oo (ref)
theorem ret_note {fn:Func} (hres:fn.results=#[.cell 4 37]) {tmps:Array Value} {w:World} {g:Nat} {x:Nt} {Q:Ending→World→Prop} (hp:tmps.getD 4 undef = .pointer (some ⟨g,0,none⟩)) (hg:w.heap[g]?=some (.cells (na x) 37 (0,0))) (hQ:Q (.returned (.agg (na x))) w):bodyPost Tryz.prog fn Q .ret { tmps:=tmps,defers:=[] } w:=
 bodyPost_ret (v:= .agg (na x)) (results_cell_row hres _ _ g 37 (na x) (0,0) _ hp hg Tryz.underlying37 rfl (tt.info31a x)) rfl hQ
theorem sT_aD (d:Dl) (m:Bool) (x:Int):sT (aD d m x)=sT d:=rfl
def Bl (n o:Nt) (g:Nat) (w:World):Prop:=w.heap[g]?=some (.cells (na n) 37 (0,0))∧w.heap[g + 1]?=some (.cells (na o) 37 (0,0))
theorem Bl.keep {n o:Nt} {g:Nat} {w w':World} (h:Bl n o g w) {own:Option Nat} (hg:w.grownBy w' own) (ho:∀ i,own=some i→i < g):Bl n o g w':=
 ⟨(hg.block _ (lt_of h.1) (fun e=>by have:=ho g e.symm;omega)).trans h.1,(hg.block _ (lt_of h.2) (fun e=>by have:=ho (g + 1) e.symm;omega)).trans h.2⟩
theorem grown_row {w w1:World} (h:w.grownBy w1 none) (g:Nat) (c:Array Value):w.grownBy (w1.setRow g c) (some g):=
 ⟨h.os,h.tape,h.output,by have:=h.size;simp;omega,fun i hi hn=>(setRow_other _ _ _ _ (fun e=>hn (by rw [e]))).trans (h.block i hi (by simp))⟩
theorem _root_.Go.Proofs.YtcoimipgilkmbaaGreatDoor.kk.Kept.later {O:Nat→Prop} {a b c:World} (h:Kept O a b) {g:Nat} (hg:b.grownBy c (some g)) (hn:a.heap.size ≤ g):Kept O a c:=
 ⟨hg.os.trans h.os,hg.tape.trans h.tape,hg.output.trans h.output,Nat.le_trans h.size hg.size,fun i hi ho=>(hg.block i (Nat.lt_of_lt_of_le hi h.size) (by simp;omega)).trans (h.block i hi ho)⟩
theorem any_q (R:RL):R.any R.q:= .inl rfl
theorem any_dg (R:RL):R.any R.dg:= .inr (.inr (.inr (.inr rfl)))
theorem any_bg (R:RL):R.any R.bg:= .inr (.inr (.inl (.inr rfl)))
section
variable {w:World} {R:RL} {P:Pm} {k:Nr} (h:RN w R P k) (I:Inv P k)
include h I
theorem rask_no (n:Nt) (hst:0 ≤ n.st) (hr:rfs k n=true):Calls Tryz.prog 119 #[.pointer (some ⟨R.q,0,none⟩),.agg (na n)] w fun e w'=>e = .returned (.agg (na (refN P k n)))∧RN w' R P { k with d:=aD k.d (met k n) n.st }∧Kept R.any w w':=by
 obtain ⟨W,hW⟩:∃ W,(w.alloc (.cells (na n) 37)).alloc (.cells (na zn) 37)=W:=⟨_,rfl⟩
 have hg0:w.grownBy W none:=hW ▸ grown_alloc (grown_alloc (grown_refl _ _) _) _
 have h0:=h.grown hg0
 have hbn:Bl n zn w.heap.size W:=by
  rw [← hW]
  exact ⟨((grown_alloc (grown_refl (w.alloc (.cells (na n) 37)) none) _).block w.heap.size (by simp) (by simp)).trans (heap_alloc_new _ _),by simpa using heap_alloc_new (w.alloc (.cells (na n) 37)) _⟩
 have HZ:Hid (na zn=_):=qh (show na zn=#[.int .u8 0,.int .i64 0,.int .i64 0,.int .i64 0,.int .u64 0,.int .u8 0,.bool false,.bool false,.int .u32 0,.int .u32 0,.int .u32 0,.int .u32 0,.int .u32 0,.int .u32 0,.int .u32 0,.int .u32 0,.int .u32 0,.int .u32 0,.int .u32 0,.int .u32 0,.int .u32 0,.int .u32 0,.int .u32 0,.int .u32 0] from rfl)
 rw [HZ.out] at hW
 have hlt:∀ g,R.any g→g < w.heap.size:=fun g hg=>h.lt hg
 have HL:=qh hlt
 have HN:Hid (∀ W',W.grownBy W' none→Bl n zn w.heap.size W'):=qh fun W' hg=>hbn.keep hg (by simp)
 have HS:Hid (∀ W',Bl n zn w.heap.size W'→(∃ k',RN W' R P k')→W'.cell? ⟨R.q,12,none⟩=some (.pointer (some ⟨R.dg,0,none⟩))∧W'.cell? ⟨R.q,11,none⟩=some (.pointer (some ⟨R.mr,0,none⟩))∧W'.cell? ⟨w.heap.size,0,none⟩=some (.int .u8 n.k)∧W'.cell? ⟨w.heap.size,3,none⟩=some (.int .i64 n.b)∧W'.cell? ⟨w.heap.size,4,none⟩=some (.int .u64 n.st)):=qh fun W' hb ⟨k',hk⟩=>⟨hk.c5,hk.c4,tt.cell_at (tt.range_of hb.1) 0 _ rfl,tt.cell_at (tt.range_of hb.1) 3 _ rfl,tt.cell_at (tt.range_of hb.1) 4 _ rfl⟩
 have HM:Hid (∀ W',W.grownBy W' none→Calls Tryz.prog 156 #[.pointer (some ⟨R.mr,0,none⟩),.int .u8 n.k,.int .i64 n.b] W' fun e w'=>e = .returned (.bool (met k n))∧W.grownBy w' none):=qh fun W' hg=>(mrk.rmeets_any (h0.grown hg).mr n.k n.b).mono fun e w' hh=>⟨hh.1,grown_trans hg hh.2⟩
 have HA:Hid (∀ W',W.grownBy W' none→Calls Tryz.prog 155 #[.pointer (some ⟨R.dg,0,none⟩),.bool (met k n),.int .u64 n.st] W' fun e w'=>e = .returned (.bool (rfs k n))∧(RN w' R P { k with d:=aD k.d (met k n) n.st }∧Kept R.any w w')∧Bl n zn w.heap.size w'):=qh fun W' hg=>by
  have h1:=h0.grown hg
  refine (de.rasked_any I.dl h1.dl (met k n) n.st hst).mono fun e w' hh=>⟨hh.1,⟨h1.put_dl hh.2.1 hh.2.2,(Kept.of (grown_trans hg0 hg)).trans (Kept.one hh.2.2 (any_dg R))⟩,(HN.out _ hg).keep hh.2.2 fun i e=>by cases e;exact hlt _ (any_dg R)⟩
 have H0:=qh h0
 rw [hr] at HA
 clear hlt hbn h I h0 hst hg0 hr
 go_enter Tryz.func119,Tryz.ntmps119
 go_upto_region 1 with fail
 go_region_held3 (fun W'=>W'.cell? ⟨R.q,12,none⟩=some (.pointer (some ⟨R.dg,0,none⟩))∧W'.cell? ⟨R.q,11,none⟩=some (.pointer (some ⟨R.mr,0,none⟩))∧W'.cell? ⟨w.heap.size,0,none⟩=some (.int .u8 n.k)∧W'.cell? ⟨w.heap.size,3,none⟩=some (.int .i64 n.b)∧W'.cell? ⟨w.heap.size,4,none⟩=some (.int .u64 n.st))
  (first | exact HS.out _ (HN.out _ (grown_drew (grown_refl W none))) ⟨_,H0.out.grown (grown_drew (grown_refl W none))⟩ | exact HS.out _ (HN.out _ HG2.out) ⟨_,H0.out.grown HG2.out⟩ | exact HS.out _ HB3.out ⟨_,H3.out.1⟩)
  (first
   | (go_at_call 156;((with_reducible refine (HM.out _ (grown_drew (grown_refl W none))).mono ?_);rintro e w2 ⟨rfl,hg2⟩;have HG2:=qh hg2;clear hg2))
   | (go_at_call 155;((with_reducible refine (HA.out _ HG2.out).mono ?_);rintro e w3 ⟨rfl,hh,hb3⟩;have H3:=qh hh;have HB3:=qh hb3;clear hh hb3)))
 have HD:Hid (w3.cell? ⟨R.q,8,none⟩=some (.int .i64 P.core)∧w3.cell? ⟨R.q,12,none⟩=some (.pointer (some ⟨R.dg,0,none⟩))∧w3.cell? ⟨w.heap.size,3,none⟩=some (.int .i64 n.b)):=qh ⟨H3.out.1.c1,H3.out.1.c5,tt.cell_at (tt.range_of HB3.out.1) 3 _ rfl⟩
 have hg3:w3.grownBy w3.drew none:=grown_drew (grown_refl _ _)
 have HST:Hid (Calls Tryz.prog 29 #[.pointer (some ⟨R.dg,0,none⟩)] w3.drew fun e w'=>e = .returned (.int .u64 (sT k.d))∧w'=w3.drew):=qh ((de.rstamp_any (H3.out.1.grown hg3).dl).mono fun e w' hh=>⟨hh.1,hh.2.symm⟩)
 have HB4:=qh (HB3.out.keep hg3 (by simp)).2
 obtain ⟨d0,d1,d2⟩:=HD.out
 have HE:Hid (#[.int .u8 10,.int .i64 P.core,.int .i64 (-1),.int .i64 n.b,.int .u64 (sT k.d),.int .u8 0,.bool false,.bool false,.int .u32 0,.int .u32 0,.int .u32 0,.int .u32 0,.int .u32 0,.int .u32 0,.int .u32 0,.int .u32 0,.int .u32 0,.int .u32 0,.int .u32 0,.int .u32 0,.int .u32 0,.int .u32 0,.int .u32 0,.int .u32 0]=na (refN P k n)):=qh rfl
 clear hg3
 go_upto_region 2 with fail
 go_still_tail 12,(by kernel_rfl)
 still_call HST.out
 repeat still_step
 refine wpStill_nil ?_
 change wpList _ _ _ _ _ w3.drew
 rw [HE.out]
 go_wp2_with (first
  | ((with_reducible refine tt.store_any (refN P k n) (na zn) 4 38 (w.heap.size + 1) ?_ ?_ ?_ ?_ ?_);((rfl));((rfl));((exact HB4.out));((rfl))))
 refine ret_note rfl (x:=refN P k n) (g:=w.heap.size + 1) rfl (by rw [setRow_heap _ _ _ _ _ _ HB4.out]) ?_
 have hg4:w3.grownBy (w3.drew.setRow (w.heap.size + 1) (na (refN P k n))) (some (w.heap.size + 1)):=grown_row (grown_drew (grown_refl _ _)) _ _
 refine ⟨rfl,H3.out.1.same fun g hg=>?_,H3.out.2.later hg4 (Nat.le_succ _)⟩
 exact hg4.block g (H3.out.1.lt hg) (by have:=HL.out g hg;simp;omega)
end
end Go.Proofs.YtcoimipgilkmbaaGreatDoor.nr
