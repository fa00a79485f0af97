/-
  The parts' answers in the midst of a call of the document's near. Conditions: as NrE names them.
  What the document's Asks answers where nothing goes out. Conditions: as NrE names them.
-/
import Derived.Test.YtcoimipgilkmbaaGreatDoorTl
import Derived.Test.YtcoimipgilkmbaaGreatDoorNpB
import Derived.Test.YtcoimipgilkmbaaGreatDoorNlu
namespace Go.Proofs.YtcoimipgilkmbaaGreatDoor.np
set_option linter.unusedVariables false
set_option linter.unusedSimpArgs false
set_option maxRecDepth 1000000
set_option maxHeartbeats 16000000
open Go Go.ChangeShapes Go.WideShapes Go.ChangeAt Go.RowKit Go.Shelf
open Go.Proofs.YtcoimipgilkmbaaGreatDoor.nr
open Go.Proofs.YtcoimipgilkmbaaGreatDoor.nl (OutN SlN)
open Go.Proofs.YtcoimipgilkmbaaGreatDoor.tt (Cfg Nt na nt zn bare zd fits row tyne lt_of U grown_refl grown_trans grown_alloc grown_setCells grown_drew grown_drewN Sl Next flat)
open Go.Proofs.YtcoimipgilkmbaaGreatDoor.kk (Ln St zl la ln cfind cdrop cuse cgoes cwrite cturn cput setAt setOf live fF Shp Kept)
open Go.Proofs.YtcoimipgilkmbaaGreatDoor.bk (Bk rem kills puts putE fd fl Nd Rg dead fresh)
open Go.Proofs.YtcoimipgilkmbaaGreatDoor.mrk (Ms rdS wrS meets addE Dom)
open Go.Proofs.YtcoimipgilkmbaaGreatDoor.de (Dl sT gE rF aD)
open Go.Proofs.YtcoimipgilkmbaaGreatDoor.oo (ref)
section
variable {w W W':World} {R:RL} {P:Pm} {k k':Nr} {L:List (Nat × Obj)}
theorem any_bg (R:RL):R.any R.bg:= .inr (.inr (.inl (.inr rfl)))
theorem any_q (R:RL):R.any R.q:= .inl rfl
theorem any_dg (R:RL):R.any R.dg:= .inr (.inr (.inr (.inr rfl)))
theorem out_kept {s:Value} {l:List Nt} (o:OutN w W s l) (hk:Kept R.any W W') (lt:∀ g,R.any g→g < w.heap.size):OutN w W' s l:=
 ⟨o.sl.of_block fun g hg=>hk.block g (by obtain ⟨cur,hc⟩:=o.sl.type g hg;exact lt_of hc) (fun ha=>by have:=lt _ ha;have:=o.own g hg;omega),o.own⟩
section
variable (m:Mid w W R P k L)
include m
theorem drew:Mid w W.drew R P k L:=m.grown (grown_drew (grown_refl _ _))
theorem tail {p:Nat × Obj} {l:List (Nat × Obj)} (e:L=p :: l):Mid w W R P k l:=
 ⟨m.rn,m.kp,fun q hq=>m.hs q (by rw [e];exact .tail _ hq),fun q hq=>m.lo q (by rw [e];exact .tail _ hq),by have:=m.nd;rw [e] at this;exact (List.nodup_cons.1 this).2,m.lt⟩
theorem varL (l:Ln):(W.alloc (.cells (la zl) 50)).heap[W.heap.size]?=some (.cells (la zl) 50 (0,0))∧Mid w ((W.alloc (.cells (la zl) 50)).setRow W.heap.size (la l)) R P k ((W.heap.size,ol l) :: L):=
 ⟨heap_alloc_new _ _,(m.alloc (la zl) 50).put (i:=0) rfl (nl.grown_row (grown_refl _ _) _ _) (setRow_heap _ _ _ _ _ _ (heap_alloc_new _ _))⟩
theorem varN (n:Nt):(W.alloc (.cells (na zn) 37)).heap[W.heap.size]?=some (.cells (na zn) 37 (0,0))∧Mid w ((W.alloc (.cells (na zn) 37)).setRow W.heap.size (na n)) R P k ((W.heap.size,on n) :: L):=
 ⟨heap_alloc_new _ _,(m.alloc (na zn) 37).put (i:=0) rfl (nl.grown_row (grown_refl _ _) _ _) (setRow_heap _ _ _ _ _ _ (heap_alloc_new _ _))⟩
theorem rangeN {g:Nat} {n:Nt} (hm:(g,on n) ∈ L):W.rangeAt g 0 (nt n):=tt.range_of (m.hs _ hm)
theorem rangeL {g:Nat} {l:Ln} (hm:(g,ol l) ∈ L):W.rangeAt g 0 (ln l):=kk.range_of (m.hs _ hm)
theorem cfind_ (hI:kk.Inv P.c k.ss) (b:Int):Calls Tryz.prog 32 #[.pointer (some ⟨R.c.b,0,none⟩),.int .i64 b] W fun e W'=>e = .returned (.tuple #[.agg (la (cfind P.c k.ss b).1),.bool (cfind P.c k.ss b).2])∧Mid w W' R P k L:=
 (kk.rfind_any R.c P.c k.ss W m.rn.ca hI b).mono fun e W' hh=>⟨hh.1,m.grown hh.2⟩
theorem cgoes_ (hI:kk.Inv P.c k.ss) (b:Int):Calls Tryz.prog 107 #[.pointer (some ⟨R.c.b,0,none⟩),.int .i64 b] W fun e W'=>e = .returned (.tuple #[.agg (la (cgoes P.c k.ss b).1),.bool (cgoes P.c k.ss b).2])∧Mid w W' R P k L:=
 (kk.rgoes_any R.c P.c k.ss W m.rn.ca hI b).mono fun e W' hh=>⟨hh.1,m.grown hh.2⟩
theorem cdrop_ (hI:kk.Inv P.c k.ss) (b:Int):Calls Tryz.prog 110 #[.pointer (some ⟨R.c.b,0,none⟩),.int .i64 b] W fun e W'=>e = .returned (.bool (cdrop P.c k.ss b).2)∧Mid w W' R P { k with ss:=(cdrop P.c k.ss b).1 } L∧Kept R.any W W':=
 (kk.rdrop_any R.c P.c k.ss W m.rn.ca hI b).mono fun e W' hh=>⟨hh.1,m.next (m.rn.put_ca hh.2.1 hh.2.2) (Kept.any hh.2.2),Kept.any hh.2.2⟩
theorem cput_ (hI:kk.Inv P.c k.ss) (l:Ln):Calls Tryz.prog 116 #[.pointer (some ⟨R.c.b,0,none⟩),.agg (la l)] W fun e W'=>e = .returned (.int .i64 (cput P.c k.ss l).2)∧Mid w W' R P { k with ss:=(cput P.c k.ss l).1 } L∧Kept R.any W W':=
 (kk.rput_any R.c P.c k.ss W m.rn.ca hI l).mono fun e W' hh=>⟨hh.1,m.next (m.rn.put_ca hh.2.1 hh.2.2) (Kept.any hh.2.2),Kept.any hh.2.2⟩
theorem bhas (hR:Rg (P.N:Int) k.bs) (b:Int):Calls Tryz.prog 78 #[.pointer (some ⟨R.br,0,none⟩),.int .i64 b] W fun e W'=>e = .returned (.bool (bk.look k.bs b).isSome)∧W=W':=bk.rhas_any m.rn.ba hR b
theorem blen (hN:P.N ≤ 256) (hI:Nd k.bs) (hR:Rg (P.N:Int) k.bs):Calls Tryz.prog 108 #[.pointer (some ⟨R.br,0,none⟩)] W fun e W'=>e = .returned (.int .i64 (k.bs.length:Int))∧W=W':=bk.rlen_any m.rn.ba hN hI hR
theorem bput_ (hN:P.N ≤ 256) (hI:Nd k.bs) (hR:Rg (P.N:Int) k.bs) (hm:k.bs.length ≤ P.m) (b:Int) (d:List Int) (hd:d.length=16):Calls Tryz.prog 109 #[.pointer (some ⟨R.br,0,none⟩),.int .i64 b,.agg (row d)] W fun e W'=>e = .returned (.int .i64 (putE (P.N:Int) P.m k.bs b))∧Mid w W' R P { k with bs:=puts (P.N:Int) P.m k.bs b d hd } L∧Kept R.any W W':=
 (bk.rput_any m.rn.ba hN hI hR hm b d hd).mono fun e W' hh=>⟨hh.1,m.next (m.rn.put_ba hh.2.1 hh.2.2) (Kept.one hh.2.2 (any_bg R)),Kept.one hh.2.2 (any_bg R)⟩
theorem bdrop_ (hI:Nd k.bs) (hR:Rg (P.N:Int) k.bs) (b:Int):Calls Tryz.prog 118 #[.pointer (some ⟨R.br,0,none⟩),.int .i64 b] W fun e W'=>e = .returned (.bool (bk.look k.bs b).isSome)∧Mid w W' R P { k with bs:=rem k.bs b } L∧Kept R.any W W':=
 (bk.rdrop_any m.rn.ba hI hR b).mono fun e W' hh=>⟨hh.1,m.next (m.rn.put_ba hh.2.1 hh.2.2) (Kept.one hh.2.2 (any_bg R)),Kept.one hh.2.2 (any_bg R)⟩
theorem stamp:Calls Tryz.prog 29 #[.pointer (some ⟨R.dg,0,none⟩)] W fun e W'=>e = .returned (.int .u64 (sT k.d))∧W=W':=de.rstamp_any m.rn.dl
theorem refused (I:de.Inv k.d) (x:Int) (hx:0 ≤ x):Calls Tryz.prog 117 #[.pointer (some ⟨R.dg,0,none⟩),.int .u64 x] W fun e W'=>e = .returned (.bool (rF k.d x))∧Mid w W' R P k L∧W.grownBy W' none:=
 (de.rrefused_any I m.rn.dl x hx).mono fun e W' ⟨he,n,hn⟩=>⟨he,by rw [hn];exact m.grown (grown_drewN (grown_refl _ _) n),by rw [hn];exact grown_drewN (grown_refl _ _) n⟩
end
theorem put_ask {a b:Nt} {wt:Bool} {t:TypeId} (h:W.heap[R.q]?=some (.cells (rc P R a wt) t (0,0))):(W.setCells R.q 13 (nt b)).heap[R.q]?=some (.cells (rc P R b wt) t (0,0)):=by
 obtain ⟨cur,h1,h2,h3,h4⟩:=tt.heap_setCells R.q t (nt b) 13 W (rc P R a wt) h (by rw [rc_size,tt.nt_len];decide)
 rw [h1]
 have:cur=rc P R b wt:=by
  apply Array.ext
  ·rw [h2,rc_size,rc_size]
  ·intro i hi hi2
   rw [rc_size] at hi2
   have e:cur[i]?=(rc P R b wt)[i]?:=by
    by_cases h13:i < 13
    ·rw [h3 i (.inl h13),rc_lo _ _ _ _ h13,rc_lo _ _ _ _ h13]
    ·by_cases h37:i=37
     ·subst h37
      rw [h3 37 (.inr (by rw [tt.nt_len];decide)),rc_wt,rc_wt]
     ·obtain ⟨v,hv⟩:∃ v,(nt b)[i - 13]?=some v:=⟨_,List.getElem?_eq_getElem (by rw [tt.nt_len];omega)⟩
      have:=h4 (i - 13) _ hv
      rw [show 13 + (i - 13)=i by omega] at this
      rw [this]
      have h5:=rc_ask P R b wt (i:=i - 13) (by omega)
      rw [show 13 + (i - 13)=i by omega] at h5
      rw [h5,na,List.getElem?_toArray,hv]
   rw [Array.getElem?_eq_getElem hi,Array.getElem?_eq_getElem (by rw [rc_size];exact hi2)] at e
   exact Option.some.inj e
 rw [this]
theorem put_k {a:Nt} {wt:Bool} {t:TypeId} (h:W.heap[R.q]?=some (.cells (rc P R a wt) t (0,0))) (x:Int):(W.setCell ⟨R.q,13,none⟩ (.int .u8 x)).heap[R.q]?=some (.cells (rc P R { a with k:=x } wt) t (0,0)):=by
 obtain ⟨hlt,hk⟩:=Array.getElem?_eq_some_iff.1 h
 show (W.heap.modify R.q _)[R.q]?=_
 rw [Array.getElem?_eq_getElem (by rw [Array.size_modify];exact hlt),Array.getElem_modify_self,hk]
 simp [rc,na,nt,Cfg.cells]
theorem put_wt {a:Nt} {wt:Bool} {t:TypeId} (h:W.heap[R.q]?=some (.cells (rc P R a wt) t (0,0))) (x:Bool):(W.setCell ⟨R.q,37,none⟩ (.bool x)).heap[R.q]?=some (.cells (rc P R a x) t (0,0)):=by
 obtain ⟨hlt,hk⟩:=Array.getElem?_eq_some_iff.1 h
 show (W.heap.modify R.q _)[R.q]?=_
 rw [Array.getElem?_eq_getElem (by rw [Array.size_modify];exact hlt),Array.getElem_modify_self,hk]
 have:(rc P R a wt).setIfInBounds 37 (.bool x)=rc P R a x:=by
  unfold rc
  rw [Array.setIfInBounds_append_right (by simp [tt.na_size,Cfg.cells])]
  simp [tt.na_size,Cfg.cells]
 show some (Obj.cells ((rc P R a wt).setIfInBounds 37 (.bool x)) t (0,0))=_
 rw [this]
section
variable (m:Mid w W R P k L)
include m
theorem asked (n:Nt):Mid w (W.setCells R.q 13 (nt n)) R P { k with ask:=n } L∧Kept R.any W (W.setCells R.q 13 (nt n)):=
 have hg:=grown_setCells W R.q 13 (nt n)
 ⟨m.next (m.rn.put_q (a:=n) (b:=k.wt) (put_ask m.rn.blk) hg) (Kept.one hg (any_q R)),Kept.one hg (any_q R)⟩
theorem kinded (x:Int):Mid w (W.setCell ⟨R.q,13,none⟩ (.int .u8 x)) R P { k with ask:={ k.ask with k:=x } } L∧Kept R.any W (W.setCell ⟨R.q,13,none⟩ (.int .u8 x)):=
 have hg:=kk.grown_setCell W R.q 13 (.int .u8 x)
 ⟨m.next (m.rn.put_q (a:={ k.ask with k:=x }) (b:=k.wt) (put_k m.rn.blk x) hg) (Kept.one hg (any_q R)),Kept.one hg (any_q R)⟩
theorem waits (x:Bool):Mid w (W.setCell ⟨R.q,37,none⟩ (.bool x)) R P { k with wt:=x } L∧Kept R.any W (W.setCell ⟨R.q,37,none⟩ (.bool x)):=
 have hg:=kk.grown_setCell W R.q 37 (.bool x)
 ⟨m.next (m.rn.put_q (a:=k.ask) (b:=x) (put_wt m.rn.blk x) hg) (Kept.one hg (any_q R)),Kept.one hg (any_q R)⟩
theorem there_q:W.there R.q 13 24:=nl.there_from m.rn.blk (by rw [rc_size];decide)
theorem freeq (i:Nat):W.frozen? ⟨R.q,i,none⟩=false:=frozen_of_row _ _ _ _ _ m.rn.blk
end
end
end Go.Proofs.YtcoimipgilkmbaaGreatDoor.np

namespace Go.Proofs.YtcoimipgilkmbaaGreatDoor.np
set_option linter.unusedVariables false
set_option linter.unusedSimpArgs false
set_option maxRecDepth 1000000
set_option maxHeartbeats 16000000
open Go Go.ChangeShapes Go.WideShapes Go.ChangeAt Go.RowKit Go.Shelf
open Go.Proofs.YtcoimipgilkmbaaGreatDoor.nr
open Go.Proofs.YtcoimipgilkmbaaGreatDoor.nl (OutN SlN)
open Go.Proofs.YtcoimipgilkmbaaGreatDoor.tt (Cfg Nt na nt zn bare zd fits row tyne lt_of U grown_refl grown_trans grown_alloc grown_setCells grown_drew grown_drewN Sl Next flat)
open Go.Proofs.YtcoimipgilkmbaaGreatDoor.kk (Ln St zl la ln cfind cdrop cuse cgoes cwrite cturn cput setAt setOf live fF Shp Kept)
open Go.Proofs.YtcoimipgilkmbaaGreatDoor.bk (Bk rem kills puts putE fd fl Nd Rg dead fresh)
open Go.Proofs.YtcoimipgilkmbaaGreatDoor.mrk (Ms rdS wrS meets addE Dom)
open Go.Proofs.YtcoimipgilkmbaaGreatDoor.de (Dl sT gE rF aD)
open Go.Proofs.YtcoimipgilkmbaaGreatDoor.oo (ref)
section
variable {w:World} {R:RL} {P:Pm} {k:Nr} (h:RN w R P k) (I:Inv P k) (hP:Pok P)
include h I hP
omit I in
theorem rask_bad (b:Int) (wr:Bool) (hb:b < 0 ∨ (P.N:Int) ≤ b):Calls Tryz.prog 68 #[.pointer (some ⟨R.q,0,none⟩),.int .i64 b,.bool wr] w fun e w'=>e = .returned (.tuple #[.bool false,.slice none 0 0,.int .i64 2])∧w.grownBy w' none:=by
 obtain ⟨c0,c1,c2,c3,c4,c5,c6,c7⟩:=h.cfg
 have HDA:=qh fun W=>tt.rdata_any P.c W hP.may.fits
 rw [hP.data] at HDA
 by_cases h0:b < 0
 ·have e0:decide (b < 0)=true:=by simp [h0]
  clear h hP hb h0
  unfold Cfg.cells at HDA
  go_enter Tryz.func68,Tryz.ntmps68
  go_wp2_with fail
  go_ret3
  exact ⟨rfl,grown_refl _ _⟩
 ·have e0:decide (b < 0)=false:=by simp [h0]
  have e1:decide ((P.N:Int) ≤ b)=true:=by simp;omega
  clear h hP hb h0
  unfold Cfg.cells at HDA
  go_enter Tryz.func68,Tryz.ntmps68
  go_wp2_with (go_at_call 31;((with_reducible refine (HDA.out _).mono ?_);rintro e w1 ⟨rfl,hg1⟩;have HG1:=qh hg1;clear hg1))
  go_ret3
  exact ⟨rfl,HG1.out⟩
omit I in
theorem rask_waits (b:Int) (wr:Bool) (hb:0 ≤ b∧b < (P.N:Int)) (hw:k.wt=true):Calls Tryz.prog 68 #[.pointer (some ⟨R.q,0,none⟩),.int .i64 b,.bool wr] w fun e w'=>e = .returned (.tuple #[.bool false,.slice none 0 0,.int .i64 8])∧w.grownBy w' none:=by
 obtain ⟨c0,c1,c2,c3,c4,c5,c6,c7⟩:=h.cfg
 have HDA:=qh fun W=>tt.rdata_any P.c W hP.may.fits
 rw [hP.data] at HDA
 have e0:decide (b < 0)=false:=by simp;omega
 have e1:decide ((P.N:Int) ≤ b)=false:=by simp;omega
 have HW:Hid (∀ W,w.grownBy W none→W.cell? ⟨R.q,37,none⟩=some (.bool true)):=qh fun W hg=>by have:=(h.grown hg).c37;rw [hw] at this;exact this
 clear h hP hb hw
 unfold Cfg.cells at HDA
 go_enter Tryz.func68,Tryz.ntmps68
 go_wp2_with (go_at_call 31;((with_reducible refine (HDA.out _).mono ?_);rintro e w1 ⟨rfl,hg1⟩;have HG1:=qh hg1;have d37:=HW.out _ hg1;clear hg1))
 go_ret3
 exact ⟨rfl,HG1.out⟩
end
end Go.Proofs.YtcoimipgilkmbaaGreatDoor.np
