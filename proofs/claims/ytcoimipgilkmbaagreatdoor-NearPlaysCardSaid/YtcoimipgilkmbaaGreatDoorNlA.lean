/-
 Where a near lies; what stays when a part of it is written. Conditions: the tables of bounds and of kinds lie in their variables as the program's text has them, in no block of the near.
-/
import Derived.Test.YtcoimipgilkmbaaGreatDoorTl
import Derived.Test.YtcoimipgilkmbaaGreatDoorNrx
import Derived.Test.YtcoimipgilkmbaaGreatDoorCaz
import Derived.Test.YtcoimipgilkmbaaGreatDoorMkx
import Derived.Test.YtcoimipgilkmbaaGreatDoorDex
import Derived.Test.YtcoimipgilkmbaaGreatDoorNax
namespace Go.Proofs.YtcoimipgilkmbaaGreatDoor.nl
set_option linter.unusedVariables false
set_option linter.unusedSimpArgs false
set_option maxRecDepth 1000000
set_option maxHeartbeats 16000000
open Go Go.ChangeShapes Go.WideShapes Go.ChangeAt Go.RowKit
open Go.Proofs.YtcoimipgilkmbaaGreatDoor.nr
open Go.Proofs.YtcoimipgilkmbaaGreatDoor.tt (Cfg Nt na nt zn bare zd fits row tyne lt_of U Tab TabK grown_refl grown_trans grown_alloc)
open Go.Proofs.YtcoimipgilkmbaaGreatDoor.kk (Ln St zl la ln cfind cdrop cuse cgoes cwrite cturn cput setAt setOf live fF Shp Cac Kept)
open Go.Proofs.YtcoimipgilkmbaaGreatDoor.bk (Bk rem kills puts putE fd fl Nd Rg dead fresh BkAt)
open Go.Proofs.YtcoimipgilkmbaaGreatDoor.mrk (Ms rdS wrS meets addE Dom MkAt)
open Go.Proofs.YtcoimipgilkmbaaGreatDoor.de (Dl sT gE rF aD LAt)
open Go.Proofs.YtcoimipgilkmbaaGreatDoor.oo (ref)
structure LL where
 q:Nat
 c:kk.Loc
 bt:Nat
 bp:Nat
 bv:Value
 mt:Nat
 mb:Nat
 dg:Nat
def shown (k:Nr):Nt:=if k.wt=true then k.ask else zn
def lc (P:Pm) (L:LL) (a:Nt):Array Value:=#[.int .i64 P.core,.int .i64 (P.N:Int),.pointer (some ⟨L.c.b,0,none⟩),.pointer (some ⟨L.bt,0,none⟩),.pointer (some ⟨L.mt,0,none⟩),.pointer (some ⟨L.dg,0,none⟩)] ++ na a
def LL.any (L:LL) (g:Nat):Prop:=g=L.q ∨ L.c.any g ∨ (g=L.bt ∨ g=L.bp ∨ L.bv.ownBlock=some g) ∨ (g=L.mt ∨ g=L.mb) ∨ g=L.dg
structure Tb (w:World):Prop where
 b:Tab w
 k:TabK w
structure LN (w:World) (L:LL) (P:Pm) (k:Nr):Prop where
 blk:w.heap[L.q]?=some (.cells (lc P L (shown k)) 96 (0,0))
 ca:Cac w L.c P.c k.ss
 ba:BkAt w L.bt L.bp L.bv P.N P.m k.bs
 mr:MkAt w L.mt L.mb P.N k.ms
 dl:LAt w L.dg k.d
 tb:Tb w
 tn:∀ g,L.any g→g ≠ 0∧g ≠ 1
theorem lc_lo (P:Pm) (L:LL) (a:Nt) {i:Nat} (hi:i < 6):(lc P L a)[i]?=(#[.int .i64 P.core,.int .i64 (P.N:Int),.pointer (some ⟨L.c.b,0,none⟩),.pointer (some ⟨L.bt,0,none⟩),.pointer (some ⟨L.mt,0,none⟩),.pointer (some ⟨L.dg,0,none⟩)]:Array Value)[i]?:=by
 unfold lc
 rw [Array.getElem?_append_left (by simpa using hi)]
theorem lc_ask (P:Pm) (L:LL) (a:Nt) {i:Nat} (hi:i < 24):(lc P L a)[6 + i]?=(na a)[i]?:=by
 unfold lc
 rw [Array.getElem?_append_right (by simp)]
 simp
theorem lc_size (P:Pm) (L:LL) (a:Nt):(lc P L a).size=30:=by simp [lc,tt.na_size]
theorem cell_lt {w:World} {a:Addr} {v:Value} (h:w.cell? a=some v):a.block < w.heap.size:=by
 unfold World.cell? at h
 by_cases hl:a.block < w.heap.size
 ·exact hl
 ·rw [Array.getElem?_eq_none (by omega)] at h;cases h
section
variable {w w':World}
theorem Tb.lb (h:Tb w):0 < w.heap.size:=cell_lt (h.b 0 (by decide)).1
theorem Tb.lk (h:Tb w):1 < w.heap.size:=cell_lt (h.k 0 (by decide))
theorem Tb.same (h:Tb w) (h1:w'.heap[(0:Nat)]?=w.heap[(0:Nat)]?) (h2:w'.heap[(1:Nat)]?=w.heap[(1:Nat)]?):Tb w':=by
 refine ⟨fun k hk=>?_,fun k hk=>?_⟩
 ·obtain ⟨a,b,c⟩:=h.b k hk
  refine ⟨?_,?_,?_⟩
  ·rw [World.cell?_of_block (w:=w) (w':=w') (a:=⟨0,k * 3,none⟩) h1];exact a
  ·rw [World.cell?_of_block (w:=w) (w':=w') (a:=⟨0,k * 3 + 1,none⟩) h1];exact b
  ·rw [World.cell?_of_block (w:=w) (w':=w') (a:=⟨0,k * 3 + 2,none⟩) h1];exact c
 ·rw [World.cell?_of_block (w:=w) (w':=w') (a:=⟨1,k,none⟩) h2];exact h.k k hk
theorem Tb.grown (h:Tb w) (hg:w.grownBy w' none):Tb w':=h.same (hg.block _ h.lb (by simp)) (hg.block _ h.lk (by simp))
theorem Tb.kept (h:Tb w) {O:Nat→Prop} (hk:Kept O w w') (hn:∀ g,O g→g ≠ 0∧g ≠ 1):Tb w':=h.same (hk.block _ h.lb (fun o=>(hn _ o).1 rfl)) (hk.block _ h.lk (fun o=>(hn _ o).2 rfl))
end
def ty (w:World) (g:Nat) (t:TypeId):Prop:=∃ cs fr,w.heap[g]?=some (.cells cs t fr)
def tz (w:World) (g:Nat):Prop:=∃ es cl,w.heap[g]?=some (.map es cl)
theorem ty_ne {w:World} {g h:Nat} {t s:TypeId} (a:ty w g t) (b:ty w h s) (hn:t ≠ s):g ≠ h:=by
 rintro rfl
 obtain ⟨_,_,h1⟩:=a
 obtain ⟨_,_,h2⟩:=b
 rw [h1] at h2
 cases h2
 exact hn rfl
theorem ty_nz {w:World} {g h:Nat} {t:TypeId} (a:ty w g t) (b:tz w h):g ≠ h:=by
 rintro rfl
 obtain ⟨_,_,h1⟩:=a
 obtain ⟨_,_,h2⟩:=b
 rw [h1] at h2
 cases h2
theorem ty_lt {w:World} {g:Nat} {t:TypeId} (a:ty w g t):g < w.heap.size:=by obtain ⟨_,_,h1⟩:=a;exact lt_of h1
section
variable {w w':World} {L:LL} {P:Pm} {k:Nr} (h:LN w L P k)
include h
theorem LN.tq:ty w L.q 96:=⟨_,_,h.blk⟩
theorem LN.tc:ty w L.c.b 151:=⟨_,_,h.ca.blk⟩
theorem LN.ts:ty w L.c.gs 149:=by obtain ⟨_,h1⟩:=h.ca.sets;exact ⟨_,_,h1⟩
theorem LN.tr {q:Nat × Nat} (hq:q ∈ L.c.gr):ty w q.1 50:=by obtain ⟨_,h1⟩:=h.ca.rowOf hq;exact ⟨_,_,h1⟩
theorem LN.tt':ty w L.bt 158:=⟨_,_,h.ba.blk⟩
theorem LN.tp:ty w L.bp 188:=⟨_,_,h.ba.pool.blk⟩
theorem LN.tv {g:Nat} (hg:L.bv.ownBlock=some g):ty w g 156:=by obtain ⟨_,h1⟩:=h.ba.pool.sl.type _ hg;exact ⟨_,_,h1⟩
theorem LN.tm:ty w L.mt 161:=⟨_,_,h.mr.blk⟩
theorem LN.tmb:tz w L.mb:=by obtain ⟨_,_,h1,_⟩:=h.mr.map;exact ⟨_,_,h1⟩
theorem LN.td:ty w L.dg 126:=⟨_,_,h.dl.blk⟩
theorem LN.lt {g:Nat} (hg:L.any g):g < w.heap.size:=by
 rcases hg with rfl | hc | (rfl | rfl | hv) | (rfl | rfl) | rfl
 ·exact lt_of h.blk
 ·exact h.ca.lt hc
 ·exact h.ba.lt
 ·exact h.ba.pool.lt
 ·exact ty_lt (h.tv hv)
 ·exact h.mr.lt
 ·exact h.mr.map.lt
 ·exact h.dl.lt
theorem LN.same (hb:∀ g,L.any g→w'.heap[g]?=w.heap[g]?) (ht:Tb w'):LN w' L P k:=
 ⟨(hb _ (.inl rfl)).trans h.blk,h.ca.same fun g hg=>hb g (.inr (.inl hg)),h.ba.of_block (hb _ (.inr (.inr (.inl (.inl rfl))))) (hb _ (.inr (.inr (.inl (.inr (.inl rfl)))))) (fun g hg=>hb _ (.inr (.inr (.inl (.inr (.inr hg)))))),
  h.mr.of_block (hb _ (.inr (.inr (.inr (.inl (.inl rfl)))))) (hb _ (.inr (.inr (.inr (.inl (.inr rfl)))))),h.dl.same (hb _ (.inr (.inr (.inr (.inr rfl))))),ht,h.tn⟩
theorem LN.grown (hg:w.grownBy w' none):LN w' L P k:=h.same (fun g hb=>hg.block g (h.lt hb) (by simp)) (h.tb.grown hg)
theorem LN.cell (i:Nat) (v:Value) (hv:(lc P L (shown k))[i]?=some v):w.cell? ⟨L.q,i,none⟩=some v:=(cell_of_row _ _ _ _ _ _ h.blk).trans hv
theorem LN.c0:w.cell? ⟨L.q,0,none⟩=some (.int .i64 P.core):=h.cell 0 _ ((lc_lo _ _ _ (by decide)).trans rfl)
theorem LN.c1:w.cell? ⟨L.q,1,none⟩=some (.int .i64 (P.N:Int)):=h.cell 1 _ ((lc_lo _ _ _ (by decide)).trans rfl)
theorem LN.c2:w.cell? ⟨L.q,2,none⟩=some (.pointer (some ⟨L.c.b,0,none⟩)):=h.cell 2 _ ((lc_lo _ _ _ (by decide)).trans rfl)
theorem LN.c3:w.cell? ⟨L.q,3,none⟩=some (.pointer (some ⟨L.bt,0,none⟩)):=h.cell 3 _ ((lc_lo _ _ _ (by decide)).trans rfl)
theorem LN.c4:w.cell? ⟨L.q,4,none⟩=some (.pointer (some ⟨L.mt,0,none⟩)):=h.cell 4 _ ((lc_lo _ _ _ (by decide)).trans rfl)
theorem LN.c5:w.cell? ⟨L.q,5,none⟩=some (.pointer (some ⟨L.dg,0,none⟩)):=h.cell 5 _ ((lc_lo _ _ _ (by decide)).trans rfl)
theorem LN.cask:w.rangeAt L.q 6 (nt (shown k)):=fun j v hv=>by
 have hl:j < 24:=by have:=(List.getElem?_eq_some_iff.1 hv).1;rw [tt.nt_len] at this;exact this
 rw [h.cell (6 + j) v ((lc_ask _ _ _ hl).trans (by rw [na,List.getElem?_toArray];exact hv))]
theorem LN.put_ca {ss':List St} (hc:Cac w' L.c P.c ss') (hk:Kept L.c.own w w'):LN w' L P { k with ss:=ss' }:=by
 have hb:∀ g t,ty w g t→t ≠ 149→t ≠ 50→w'.heap[g]?=w.heap[g]?:=fun g t hg h1 h2=>hk.block g (ty_lt hg) (fun e=>e.elim (ty_ne hg h.ts h1) (fun ⟨q,hq,e⟩=>ty_ne hg (h.tr hq) h2 e.symm))
 have hz:w'.heap[L.mb]?=w.heap[L.mb]?:=hk.block _ h.mr.map.lt (fun e=>e.elim (fun e=>ty_nz h.ts h.tmb e.symm) (fun ⟨q,hq,e⟩=>ty_nz (h.tr hq) h.tmb e))
 exact ⟨(hb _ _ h.tq (by decide) (by decide)).trans h.blk,hc,h.ba.of_block (hb _ _ h.tt' (by decide) (by decide)) (hb _ _ h.tp (by decide) (by decide)) (fun g hg=>hb _ _ (h.tv hg) (by decide) (by decide)),h.mr.of_block (hb _ _ h.tm (by decide) (by decide)) hz,h.dl.same (hb _ _ h.td (by decide) (by decide)),h.tb.kept hk (fun g hg=>h.tn g (.inr (.inl (.inr hg)))),h.tn⟩
theorem LN.put_ba {bs':List Bk} {v':Value} (hc:BkAt w' L.bt L.bp v' P.N P.m bs') (hT:tt.Turn w w' L.bp L.bv v'):LN w' { L with bv:=v' } P { k with bs:=bs' }:=by
 have hb:∀ g t,ty w g t→t ≠ 156→t ≠ 188→w'.heap[g]?=w.heap[g]?:=fun g t hg h1 h2=>hT.block g (ty_lt hg) (ty_ne hg h.tp h2) (fun e=>ty_ne hg (h.tv e.symm) h1 rfl)
 have hz:w'.heap[L.mb]?=w.heap[L.mb]?:=hT.block _ h.mr.map.lt (fun e=>ty_nz h.tp h.tmb e.symm) (fun e=>ty_nz (h.tv e.symm) h.tmb rfl)
 refine ⟨(hb _ _ h.tq (by decide) (by decide)).trans h.blk,h.ca.same ?_,hc,h.mr.of_block (hb _ _ h.tm (by decide) (by decide)) hz,h.dl.same (hb _ _ h.td (by decide) (by decide)),?_,fun g hg=>?_⟩
 ·rintro g (rfl | rfl | ⟨q,hq,rfl⟩)
  ·exact hb _ _ h.tc (by decide) (by decide)
  ·exact hb _ _ h.ts (by decide) (by decide)
  ·exact hb _ _ (h.tr hq) (by decide) (by decide)
 ·refine h.tb.same (hT.block _ h.tb.lb (fun e=>(h.tn L.bp (.inr (.inr (.inl (.inr (.inl rfl)))))).1 e.symm) (fun e=>(h.tn _ (.inr (.inr (.inl (.inr (.inr e.symm)))))).1 rfl)) (hT.block _ h.tb.lk (fun e=>(h.tn L.bp (.inr (.inr (.inl (.inr (.inl rfl)))))).2 e.symm) (fun e=>(h.tn _ (.inr (.inr (.inl (.inr (.inr e.symm)))))).2 rfl))
 ·rcases hg with rfl | hg | (rfl | rfl | hv) | (rfl | rfl) | rfl
  ·exact h.tn _ (.inl rfl)
  ·exact h.tn _ (.inr (.inl hg))
  ·exact h.tn _ (.inr (.inr (.inl (.inl rfl))))
  ·exact h.tn _ (.inr (.inr (.inl (.inr (.inl rfl)))))
  ·rcases hT.next with hn | hn
   ·exact h.tn _ (.inr (.inr (.inl (.inr (.inr (hn ▸ hv))))))
   ·have h1:=hn _ hv
    have h2:=h.tb.lb
    have h3:=h.tb.lk
    constructor <;> omega
  ·exact h.tn _ (.inr (.inr (.inr (.inl (.inl rfl)))))
  ·exact h.tn _ (.inr (.inr (.inr (.inl (.inr rfl)))))
  ·exact h.tn _ (.inr (.inr (.inr (.inr rfl))))
theorem LN.put_mk {ms':Ms} (hc:MkAt w' L.mt L.mb P.N ms') (hk:w.grownBy w' (some L.mb)):LN w' L P { k with ms:=ms' }:=by
 have hb:∀ g t,ty w g t→w'.heap[g]?=w.heap[g]?:=fun g t hg=>hk.block g (ty_lt hg) (by rintro e;cases e;exact ty_nz hg h.tmb rfl)
 refine ⟨(hb _ _ h.tq).trans h.blk,h.ca.same ?_,h.ba.of_block (hb _ _ h.tt') (hb _ _ h.tp) (fun g hg=>hb _ _ (h.tv hg)),hc,h.dl.same (hb _ _ h.td),?_,h.tn⟩
 ·rintro g (rfl | rfl | ⟨q,hq,rfl⟩)
  ·exact hb _ _ h.tc
  ·exact hb _ _ h.ts
  ·exact hb _ _ (h.tr hq)
 ·have:=h.tn L.mb (.inr (.inr (.inr (.inl (.inr rfl)))))
  exact h.tb.same (hk.block _ h.tb.lb (fun e=>this.1 (Option.some.inj e).symm)) (hk.block _ h.tb.lk (fun e=>this.2 (Option.some.inj e).symm))
theorem LN.put_dl {d':Dl} (hc:LAt w' L.dg d') (hk:w.grownBy w' (some L.dg)):LN w' L P { k with d:=d' }:=by
 have hb:∀ g t,ty w g t→t ≠ 126→w'.heap[g]?=w.heap[g]?:=fun g t hg h1=>hk.block g (ty_lt hg) (by rintro e;cases e;exact ty_ne hg h.td h1 rfl)
 refine ⟨(hb _ _ h.tq (by decide)).trans h.blk,h.ca.same ?_,h.ba.of_block (hb _ _ h.tt' (by decide)) (hb _ _ h.tp (by decide)) (fun g hg=>hb _ _ (h.tv hg) (by decide)),h.mr.of_block (hb _ _ h.tm (by decide)) (hk.block _ h.mr.map.lt (fun e=>ty_nz h.td h.tmb (Option.some.inj e).symm)),hc,?_,h.tn⟩
 ·rintro g (rfl | rfl | ⟨q,hq,rfl⟩)
  ·exact hb _ _ h.tc (by decide)
  ·exact hb _ _ h.ts (by decide)
  ·exact hb _ _ (h.tr hq) (by decide)
 ·have:=h.tn L.dg (.inr (.inr (.inr (.inr rfl))))
  exact h.tb.same (hk.block _ h.tb.lb (fun e=>this.1 (Option.some.inj e).symm)) (hk.block _ h.tb.lk (fun e=>this.2 (Option.some.inj e).symm))
theorem LN.put_q {a:Nt} {b:Bool} (hb:w'.heap[L.q]?=some (.cells (lc P L (shown { k with ask:=a,wt:=b })) 96 (0,0))) (hk:w.grownBy w' (some L.q)):LN w' L P { k with ask:=a,wt:=b }:=by
 have hn:∀ g t,ty w g t→t ≠ 96→w'.heap[g]?=w.heap[g]?:=fun g t hg h1=>hk.block g (ty_lt hg) (by rintro e;cases e;exact ty_ne hg h.tq h1 rfl)
 refine ⟨hb,h.ca.same ?_,h.ba.of_block (hn _ _ h.tt' (by decide)) (hn _ _ h.tp (by decide)) (fun g hg=>hn _ _ (h.tv hg) (by decide)),h.mr.of_block (hn _ _ h.tm (by decide)) (hk.block _ h.mr.map.lt (fun e=>ty_nz h.tq h.tmb (Option.some.inj e).symm)),h.dl.same (hn _ _ h.td (by decide)),?_,h.tn⟩
 ·rintro g (rfl | rfl | ⟨q,hq,rfl⟩)
  ·exact hn _ _ h.tc (by decide)
  ·exact hn _ _ h.ts (by decide)
  ·exact hn _ _ (h.tr hq) (by decide)
 ·have:=h.tn L.q (.inl rfl)
  exact h.tb.same (hk.block _ h.tb.lb (fun e=>this.1 (Option.some.inj e).symm)) (hk.block _ h.tb.lk (fun e=>this.2 (Option.some.inj e).symm))
end
structure Mv (w w':World) (L:LL) (v':Value):Prop where
 kp:Kept L.any w w'
 nx:tt.Next w w' L.bv v'
theorem any_bv {L:LL} {v:Value} {g:Nat} (hg:{ L with bv:=v }.any g):L.any g ∨ v.ownBlock=some g:=by
 rcases hg with rfl | hg | (rfl | rfl | hv) | (rfl | rfl) | rfl
 ·exact .inl (.inl rfl)
 ·exact .inl (.inr (.inl hg))
 ·exact .inl (.inr (.inr (.inl (.inl rfl))))
 ·exact .inl (.inr (.inr (.inl (.inr (.inl rfl)))))
 ·exact .inr hv
 ·exact .inl (.inr (.inr (.inr (.inl (.inl rfl)))))
 ·exact .inl (.inr (.inr (.inr (.inl (.inr rfl)))))
 ·exact .inl (.inr (.inr (.inr (.inr rfl))))
theorem Mv.refl (w:World) (L:LL):Mv w w L L.bv:=⟨Kept.of (grown_refl _ _),.inl rfl⟩
theorem Mv.of {w w':World} {L:LL} (hg:w.grownBy w' none):Mv w w' L L.bv:=⟨Kept.of hg,.inl rfl⟩
theorem Mv.trans {a b c:World} {L:LL} {v v':Value} (h:Mv a b L v) (k:Mv b c { L with bv:=v } v'):Mv a c L v':=by
 refine ⟨⟨k.kp.os.trans h.kp.os,k.kp.tape.trans h.kp.tape,k.kp.output.trans h.kp.output,Nat.le_trans h.kp.size k.kp.size,fun i hi hn=>(k.kp.block i (Nat.lt_of_lt_of_le hi h.kp.size) (fun ho=>?_)).trans (h.kp.block i hi hn)⟩,?_⟩
 ·rcases any_bv ho with ho | ho
  ·exact hn ho
  ·rcases h.nx with hx | hx
   ·exact hn (.inr (.inr (.inl (.inr (.inr (hx ▸ ho))))))
   ·have:=hx _ ho;omega
 ·rcases k.nx with hx | hx
  ·rcases h.nx with hy | hy
   ·exact .inl (hx.trans hy)
   ·exact .inr fun g hg=>hy g (by rw [← hg];exact hx.symm)
  ·exact .inr fun g hg=>Nat.le_trans h.kp.size (hx g hg)
theorem Mv.own {w w':World} {L:LL} (h:Kept L.c.own w w'):Mv w w' L L.bv:=⟨⟨h.os,h.tape,h.output,h.size,fun g hg hn=>h.block g hg (fun o=>hn (.inr (.inl (.inr o))))⟩,.inl rfl⟩
theorem Mv.one {w w':World} {L:LL} {g:Nat} (h:w.grownBy w' (some g)) (hg:L.any g):Mv w w' L L.bv:=⟨Kept.one h hg,.inl rfl⟩
theorem Mv.turn {w w':World} {L:LL} {v':Value} (h:tt.Turn w w' L.bp L.bv v'):Mv w w' L v':=⟨⟨h.os,h.tape,h.output,h.size,fun g hg hn=>h.block g hg (fun e=>hn (.inr (.inr (.inl (.inr (.inl e)))))) (fun e=>hn (.inr (.inr (.inl (.inr (.inr e.symm))))))⟩,h.next⟩
theorem any_mb (L:LL):L.any L.mb:= .inr (.inr (.inr (.inl (.inr rfl))))
theorem any_dg (L:LL):L.any L.dg:= .inr (.inr (.inr (.inr rfl)))
theorem any_q (L:LL):L.any L.q:= .inl rfl
theorem Mv.old {w0 w w':World} {L:LL} {v':Value} (h:Mv w w' L v') (hg:w0.grownBy w none) (ho:∀ g,L.any g→w0.heap.size ≤ g):w0.grownBy w' none∧∀ g,{ L with bv:=v' }.any g→w0.heap.size ≤ g:=
 ⟨h.kp.below hg ho,fun g ha=>by
  rcases any_bv ha with ha | ha
  ·exact ho g ha
  ·rcases h.nx with hx | hx
   ·exact ho g (.inr (.inr (.inl (.inr (.inr (hx ▸ ha))))))
   ·exact Nat.le_trans hg.size (hx g ha)⟩
end Go.Proofs.YtcoimipgilkmbaaGreatDoor.nl
