/-
  The landed near and the document's near side by side: what stays when one of them is written. Conditions: as NlA and NrE name them.
  One call on both nears: the state in its midst; loads, stores, and what is none. Conditions: as NlA and NrE name them.
  One call on both nears: an ask; a note that arrives. Conditions: as NlA and NrE name them.
  One call on both nears: a transaction begins, ends, fails. Conditions: as NlA and NrE name them.
  One call on both nears: a transaction is over; no block is marked; a copy goes on. Conditions: as NlA and NrE name them.
  The law NearPlays: both nears as New makes them, a call's variable, blocks in variables; a script that is too long, a plan or a core that is none. Conditions: the tables of bounds and of kinds lie in their variables as the program's text has them.
-/
import Derived.Test.YtcoimipgilkmbaaGreatDoorTl
import Derived.Test.YtcoimipgilkmbaaGreatDoorNpA
import Derived.Test.YtcoimipgilkmbaaGreatDoorNpH
import Derived.Test.YtcoimipgilkmbaaGreatDoorNlu
import Derived.Test.YtcoimipgilkmbaaGreatDoorNlR
import Derived.Test.YtcoimipgilkmbaaGreatDoorDey
import Derived.Test.YtcoimipgilkmbaaGreatDoorNlT
import Derived.Test.YtcoimipgilkmbaaGreatDoorMkx
namespace Go.Proofs.YtcoimipgilkmbaaGreatDoor.py
set_option linter.unusedVariables false
set_option linter.unusedSimpArgs false
set_option maxRecDepth 1000000
set_option maxHeartbeats 16000000
open Go Go.ChangeShapes Go.WideShapes Go.ChangeAt Go.RowKit Go.Shelf
open Go.Proofs.YtcoimipgilkmbaaGreatDoor.nr
open Go.Proofs.YtcoimipgilkmbaaGreatDoor.nl
open Go.Proofs.YtcoimipgilkmbaaGreatDoor.tt (OpX opc OpsAt cfg_at CfgAt Cfg Nt na nt zn bare zd fits row tyne lt_of U Tab TabK grown_refl grown_trans grown_alloc grown_setCells grown_drew grown_drewN yes Sl Next flat)
open Go.Proofs.YtcoimipgilkmbaaGreatDoor.kk (Ln St zl la ln cfind cdrop cuse cgoes cwrite cturn cput setAt setOf live fF Shp Cac Kept)
open Go.Proofs.YtcoimipgilkmbaaGreatDoor.bk (Bk rem kills puts putE fd fl Nd Rg dead fresh BkAt)
open Go.Proofs.YtcoimipgilkmbaaGreatDoor.mrk (Ms rdS wrS meets addE Dom MkAt)
open Go.Proofs.YtcoimipgilkmbaaGreatDoor.de (Dl sT gE rF aD LAt)
open Go.Proofs.YtcoimipgilkmbaaGreatDoor.oo (ref)
structure Fx (L:LL) (w w':World):Prop where
 far:Far L w w'
 lx:∀ (g:Nat) (cs:Array Value) (fr:Nat × Nat),w.heap[g]?=some (Obj.cells cs 50 fr)→(∀ q ∈ L.c.gr,g ≠ q.1)→w'.heap[g]?=some (Obj.cells cs 50 fr)
theorem Fx.of {w w':World} {L:LL} {v v':Value} {P:Pm} {k:Nr} (hl:LN w { L with bv:=v } P k) (hm:Mv w w' { L with bv:=v } v'):Fx L w w':=
 ⟨Far.of hl hm,fun g cs fr hg hn=>by
  refine (hm.kp.block g (lt_of hg) ?_).trans hg
  have hz:nl.ty w g 50:=⟨_,_,hg⟩
  rintro (e | (e | e | ⟨q,hq,e⟩) | (e | e | e) | (e | e) | e)
  ·exact nl.ty_ne hl.tq hz (by decide) e.symm
  ·exact nl.ty_ne hl.tc hz (by decide) e.symm
  ·exact nl.ty_ne hl.ts hz (by decide) e.symm
  ·exact hn q hq e.symm
  ·exact nl.ty_ne hl.tt' hz (by decide) e.symm
  ·exact nl.ty_ne hl.tp hz (by decide) e.symm
  ·exact nl.ty_ne (hl.tv e) hz (by decide) rfl
  ·exact nl.ty_ne hl.tm hz (by decide) e.symm
  ·exact ty_nz hz hl.tmb e
  ·exact nl.ty_ne hl.td hz (by decide) e.symm⟩
section
variable {w0 w w':World} {L:LL} {P:Pm} {k:Nr} (o:nl.Own w0 w L P k) (I:Inv P k) (hP:Pok P)
include o
theorem fx_load (b i:Int):Calls Tryz.prog 19 #[.pointer (some ⟨L.q,0,none⟩),.int .i64 b,.int .i64 i] w fun e w'=>e = .returned (.tuple #[.int .u32 (loadV P k b i),.int .i64 (loadE P k b i)])∧nl.Own w0 w' L P (loadS P k b i)∧Fx L w w':=by
 obtain ⟨v,bs,hl,hs,hi⟩:=o.ex
 exact (load_any hl b i).mono fun e w' ⟨he,v',hl',hm⟩=>⟨he,nl.Own.of o.old hi (by rw [loadS_same] at hl';exact hl') (by rw [loadS_bs];exact hs) hm,Fx.of hl hm⟩
theorem fx_store (b i x:Int):Calls Tryz.prog 15 #[.pointer (some ⟨L.q,0,none⟩),.int .i64 b,.int .i64 i,.int .u32 x] w fun e w'=>e = .returned (.tuple #[.int .u32 (storeV P k b i x),.int .i64 (storeE P k b i x)])∧nl.Own w0 w' L P (storeS P k b i x)∧Fx L w w':=by
 obtain ⟨v,bs,hl,hs,hi⟩:=o.ex
 exact (store_any hl b i x).mono fun e w' ⟨he,v',hl',hm⟩=>⟨he,nl.Own.of o.old hi (by rw [storeS_same] at hl';exact hl') (by rw [storeS_bs];exact hs) hm,Fx.of hl hm⟩
theorem fx_clear:Calls Tryz.prog 18 #[.pointer (some ⟨L.q,0,none⟩)] w fun e w'=>e = .returned (.tuple #[])∧nl.Own w0 w' L P (clrS k)∧Fx L w w':=by
 obtain ⟨v,bs,hl,hs,hi⟩:=o.ex
 exact (clear_any hl).mono fun e w' ⟨he,v',hl',hm⟩=>⟨he,nl.Own.of o.old hi hl' hs hm,Fx.of hl hm⟩
theorem fx_back (b:Int):Calls Tryz.prog 23 #[.pointer (some ⟨L.q,0,none⟩),.int .i64 b] w fun e w'=>e = .returned (.tuple #[.agg (row (fd (bk.look k.bs b))),.bool (fl (bk.look k.bs b)),.bool (bk.look k.bs b).isSome])∧nl.Own w0 w' L P k∧Fx L w w':=by
 obtain ⟨v,bs,hl,hs,hi⟩:=o.ex
 refine (backm_any hl b).mono fun e w' ⟨he,v',hl',hm⟩=>⟨?_,nl.Own.of o.old hi hl' hs hm,Fx.of hl hm⟩
 rw [he]
 show Ending.returned (.tuple #[.agg (row (fd (bk.look bs b))),.bool (fl (bk.look bs b)),.bool (bk.look bs b).isSome])=_
 rw [hs.look]
theorem fx_dl {d':Dl} (hd:LAt w' L.dg d') (hg:w.grownBy w' (some L.dg)):nl.Own w0 w' L P { k with d:=d' }∧Fx L w w':=by
 obtain ⟨v,bs,hl,hs,hi⟩:=o.ex
 have hm:=Mv.one (L:={ L with bv:=v }) hg (nl.any_dg _)
 exact ⟨nl.Own.of o.old hi (hl.put_dl (d':=d') hd hg) hs hm,Fx.of hl hm⟩
include I
theorem fx_ask (b:Int) (wr:Bool):Calls Tryz.prog 16 #[.pointer (some ⟨L.q,0,none⟩),.int .i64 b,.bool wr] w fun e w'=>∃ s,e = .returned (.tuple #[.bool (askR P k b wr),s,.int .i64 (askE P k b wr)])∧OutN w w' s (askO P k b wr)∧nl.Own w0 w' L P (askS P k b wr)∧Fx L w w':=by
 obtain ⟨v,bs,hl,hs,hi⟩:=o.ex
 obtain ⟨b2,h2,h3⟩:=askS_same (P:=P) hs b wr
 refine (ask_any hl (inv_same hs I) b wr).mono fun e w' ⟨s,he,ho,v',hl',hm⟩=>⟨s,?_,?_,nl.Own.of o.old hi (by rw [h2] at hl';exact hl') h3 hm,Fx.of hl hm⟩
 ·rw [he,askR_same hs,askE_same hs]
 ·rw [askO_same hs] at ho;exact ho
include hP
theorem fx_take (n:Nt):Calls Tryz.prog 20 #[.pointer (some ⟨L.q,0,none⟩),.agg (na n)] w fun e w'=>∃ s,e = .returned (.tuple #[s,.bool (takeG P k n),.int .i64 (takeE P k n)])∧OutN w w' s (takeO P k n)∧nl.Own w0 w' L P (takeS P k n)∧Fx L w w':=by
 obtain ⟨v,bs,hl,hs,hi⟩:=o.ex
 obtain ⟨b2,h2,h3⟩:=takeS_same (P:=P) hs n I.nd
 refine (take_any hl (inv_same hs I) hP n).mono fun e w' ⟨s,he,ho,v',b3,hl',hs',hm⟩=>⟨s,?_,?_,nl.Own.of o.old hi (by rw [h2] at hl';exact hl') (h3.trans (by rw [h2] at hs';exact hs')) hm,Fx.of hl hm⟩
 ·rw [he,takeG_same hs,takeE_same hs]
 ·rw [takeO_same hs] at ho;exact ho
end
def farR (t:TypeId):Bool:=!([73,131,50,5,136,133,139,4,78].contains t)
section
variable {w w':World} {R:RL} {P:Pm} {r:Nr} (h:RN w R P r)
include h
theorem rno {g:Nat} {t:TypeId} (ht:nl.ty w g t) (hf:farR t=true):¬ R.any g:=by
 unfold farR at hf
 simp only [List.contains_cons,List.contains_nil,Bool.or_false,Bool.not_eq_true',Bool.or_eq_false_iff,beq_eq_false_iff_ne] at hf
 obtain ⟨h1,h2,h3,h4,h5,h6,h7,h8,h9⟩:=hf
 rintro (e | (e | e | e) | (e | e) | (e | e | e) | e)
 ·exact nr.ty_ne ht h.tq h1 e
 ·exact nr.ty_ne ht h.tc h2 e
 ·exact nr.ty_ne ht h.tl h3 e
 ·exact nr.ty_ne ht h.tm h4 e
 ·exact nr.ty_ne ht h.tb h5 e
 ·exact nr.ty_ne ht h.tk h6 e
 ·exact nr.ty_ne ht h.tr h7 e
 ·exact nr.ty_ne ht h.t1 h8 e
 ·exact nr.ty_ne ht h.t2 h8 e
 ·exact nr.ty_ne ht h.td h9 e
theorem rnl {g:Nat} (ht:nl.ty w g 50) (hg:g ≠ R.c.gl):¬ R.any g:=by
 rintro (e | (e | e | e) | (e | e) | (e | e | e) | e)
 ·exact nr.ty_ne ht h.tq (by decide) e
 ·exact nr.ty_ne ht h.tc (by decide) e
 ·exact hg e
 ·exact nr.ty_ne ht h.tm (by decide) e
 ·exact nr.ty_ne ht h.tb (by decide) e
 ·exact nr.ty_ne ht h.tk (by decide) e
 ·exact nr.ty_ne ht h.tr (by decide) e
 ·exact nr.ty_ne ht h.t1 (by decide) e
 ·exact nr.ty_ne ht h.t2 (by decide) e
 ·exact nr.ty_ne ht h.td (by decide) e
theorem rnz {g:Nat} (hz:tz w g):¬ R.any g:=by
 rintro (e | (e | e | e) | (e | e) | (e | e | e) | e)
 ·exact ty_nz h.tq hz e.symm
 ·exact ty_nz h.tc hz e.symm
 ·exact ty_nz h.tl hz e.symm
 ·exact ty_nz h.tm hz e.symm
 ·exact ty_nz h.tb hz e.symm
 ·exact ty_nz h.tk hz e.symm
 ·exact ty_nz h.tr hz e.symm
 ·exact ty_nz h.t1 hz e.symm
 ·exact ty_nz h.t2 hz e.symm
 ·exact ty_nz h.td hz e.symm
theorem rn_left {L:LL} (ap:∀ q ∈ L.c.gr,q.1 ≠ R.c.gl) (f:Fx L w w'):RN w' R P r:=by
 have hb:∀ {g:Nat} {t:TypeId},nl.ty w g t→far t=true→w'.heap[g]?=w.heap[g]?:=fun {g t} ht hf=>by
  obtain ⟨cs,fr,h1⟩:=ht
  exact (f.far.cs g cs t fr h1 hf).trans h1.symm
 refine h.same ?_
 rintro g (rfl | (rfl | rfl | rfl) | (rfl | rfl) | (rfl | rfl | rfl) | rfl)
 ·exact hb h.tq (by decide)
 ·exact hb h.tc (by decide)
 ·obtain ⟨cs,fr,h1⟩:=h.tl
  exact (f.lx _ cs fr h1 (fun q hq e=>ap q hq e.symm)).trans h1.symm
 ·exact hb h.tm (by decide)
 ·exact hb h.tb (by decide)
 ·exact hb h.tk (by decide)
 ·exact hb h.tr (by decide)
 ·exact hb h.t1 (by decide)
 ·exact hb h.t2 (by decide)
 ·exact hb h.td (by decide)
theorem rn_no {L:LL} {k:Nr} (hl:LN w L P k) (ap:∀ q ∈ L.c.gr,q.1 ≠ R.c.gl) (g:Nat) (hg:L.any g):¬ R.any g:=by
 rcases hg with rfl | (rfl | rfl | ⟨q,hq,rfl⟩) | (rfl | rfl | hv) | (rfl | rfl) | rfl
 ·exact rno h hl.tq (by decide)
 ·exact rno h hl.tc (by decide)
 ·exact rno h hl.ts (by decide)
 ·exact rnl h (hl.tr hq) (ap q hq)
 ·exact rno h hl.tt' (by decide)
 ·exact rno h hl.tp (by decide)
 ·exact rno h (hl.tv hv) (by decide)
 ·exact rno h hl.tm (by decide)
 ·exact rnz h hl.tmb
 ·exact rno h hl.td (by decide)
end
structure B2 (wb W:World) (L:LL) (R:RL) (P:Pm) (k r:Nr):Prop where
 own:nl.Own wb W L P k
 rn:RN W R P r
 ap:∀ q ∈ L.c.gr,q.1 ≠ R.c.gl
 rb:∀ g,R.any g→wb.heap.size ≤ g
 tb:Tb wb
section
variable {wb W W':World} {L:LL} {R:RL} {P:Pm} {k k' r r':Nr} (b:B2 wb W L R P k r)
include b
theorem B2.grown (hg:W.grownBy W' none):B2 wb W' L R P k r:=⟨b.own.grown hg,b.rn.grown hg,b.ap,b.rb,b.tb⟩
theorem B2.drew:B2 wb W.drew L R P k r:=b.grown (grown_drew (grown_refl _ _))
theorem B2.left (o:nl.Own wb W' L P k') (f:Fx L W W'):B2 wb W' L R P k' r:=⟨o,rn_left b.rn b.ap f,b.ap,b.rb,b.tb⟩
theorem B2.own_right (hk:Kept R.any W W'):nl.Own wb W' L P k:=by
 obtain ⟨v,bs,hl,hs,hi⟩:=b.own.ex
 have hno:=rn_no b.rn hl b.ap
 refine ⟨⟨v,bs,hl.same (fun g hg=>hk.block g (hl.lt hg) (hno g hg)) (hl.tb.kept hk fun g hg=>?_),hs,hi⟩,hk.os.trans b.own.old.os,hk.tape.trans b.own.old.tape,hk.output.trans b.own.old.output,Nat.le_trans b.own.old.size hk.size,fun i hi2 hn2=>(hk.block i (Nat.lt_of_lt_of_le hi2 b.own.old.size) (fun e=>by have:=b.rb i e;omega)).trans (b.own.old.block i hi2 hn2)⟩
 have h1:=b.rb g hg
 have h2:=b.tb.lb
 have h3:=b.tb.lk
 exact ⟨by omega,by omega⟩
theorem B2.right (h:RN W' R P r') (hk:Kept R.any W W'):B2 wb W' L R P k r':=⟨b.own_right hk,h,b.ap,b.rb,b.tb⟩
theorem B2.clr {h1 h2:Nat} (h:RN W' { R with m1:=h1,m2:=h2 } P r') (hk:W.grownBy W' (some R.mr)) (l1:W.heap.size ≤ h1) (l2:W.heap.size ≤ h2):B2 wb W' L { R with m1:=h1,m2:=h2 } P k r':=by
 have hs:=b.own.old.size
 refine ⟨b.own_right (Kept.one hk (.inr (.inr (.inr (.inl (.inl rfl)))))),h,b.ap,?_,b.tb⟩
 rintro g (e | e | e | (e | e | e) | e)
 ·exact b.rb g (.inl e)
 ·exact b.rb g (.inr (.inl e))
 ·exact b.rb g (.inr (.inr (.inl e)))
 ·exact b.rb g (.inr (.inr (.inr (.inl (.inl e)))))
 ·have e:g=h1:=e
  omega
 ·have e:g=h2:=e
  omega
 ·exact b.rb g (.inr (.inr (.inr (.inr e))))
theorem B2.dl {d':Dl} (hd:LAt W' L.dg d') (hg:W.grownBy W' (some L.dg)):B2 wb W' L R P { k with d:=d' } r:=by
 obtain ⟨o,f⟩:=fx_dl b.own hd hg
 exact b.left o f
theorem B2.rdl {d':Dl} (hd:de.Both W' R.dg d') (hg:W.grownBy W' (some R.dg)):B2 wb W' L R P k { r with d:=d' }:=
 b.right (b.rn.put_dl hd hg) (Kept.one hg (.inr (.inr (.inr (.inr rfl)))))
theorem B2.cells {g:Nat} {cs:Array Value} {t:TypeId} {fr:Nat × Nat} (hg:W.heap[g]?=some (.cells cs t fr)) (hf:farR t=true) (hk:Kept R.any W W'):W'.heap[g]?=some (.cells cs t fr):=
 (hk.block g (lt_of hg) (rno b.rn ⟨_,_,hg⟩ hf)).trans hg
theorem B2.out {w1:World} {s:Value} {l:List Nt} (o:OutN w1 W s l) (hk:Kept R.any W W'):OutN w1 W' s l:=
 ⟨o.sl.of_block fun g hg=>by
  obtain ⟨cur,hc⟩:=o.sl.type g hg
  rw [b.cells hc (by decide) hk,hc],o.own⟩
end
end Go.Proofs.YtcoimipgilkmbaaGreatDoor.py

namespace Go.Proofs.YtcoimipgilkmbaaGreatDoor.py
set_option linter.unusedVariables false
set_option linter.unusedSimpArgs false
set_option maxRecDepth 1000000
set_option maxHeartbeats 16000000
open Go Go.ChangeShapes Go.WideShapes Go.ChangeAt Go.RowKit Go.Shelf
open Go.Proofs.YtcoimipgilkmbaaGreatDoor.nr
open Go.Proofs.YtcoimipgilkmbaaGreatDoor.nl
open Go.Proofs.YtcoimipgilkmbaaGreatDoor.tt (OpX opc OpsAt cfg_at CfgAt Cfg Nt na nt zn bare zd fits row tyne lt_of U Tab TabK grown_refl grown_trans grown_alloc grown_setCells grown_drew grown_drewN yes Sl Next flat)
open Go.Proofs.YtcoimipgilkmbaaGreatDoor.kk (Ln St zl la ln cfind cdrop cuse cgoes cwrite cturn cput setAt setOf live fF Shp Cac Kept)
open Go.Proofs.YtcoimipgilkmbaaGreatDoor.bk (Bk rem kills puts putE fd fl Nd Rg dead fresh BkAt)
open Go.Proofs.YtcoimipgilkmbaaGreatDoor.mrk (Ms rdS wrS meets addE Dom MkAt)
open Go.Proofs.YtcoimipgilkmbaaGreatDoor.de (Dl sT gE rF aD LAt)
open Go.Proofs.YtcoimipgilkmbaaGreatDoor.oo (ref)
def Dn (wb:World) (P:Pm) (rq:Nat) (e:Ending) (w':World):Prop:=∃ (L':LL) (R':RL) (k':Nr),e = .returned (.tuple #[.pointer (some ⟨L'.q,0,none⟩),.bool true])∧B2 wb w' L' R' P k' k'∧R'.q=rq∧Inv P k'
structure Sd (wb W:World) (L:LL) (R:RL) (P:Pm) (k r:Nr) (X:Nat) (q:OpX):Prop where
 b:B2 wb W L R P k r
 bx:W.heap[X]?=some (oq q)
theorem Sd.new {wb w:World} {L:LL} {R:RL} {P:Pm} {k r:Nr} (b:B2 wb w L R P k r) (q:OpX):Sd wb (w.alloc (.cells (opa q) 65)) L R P k r w.heap.size q:=
 ⟨b.grown (grown_alloc (grown_refl _ _) _),heap_alloc_new _ _⟩
section
variable {wb W W':World} {L:LL} {R:RL} {P:Pm} {k k' r r':Nr} {X:Nat} {q:OpX} (s:Sd wb W L R P k r X q)
include s
theorem Sd.grown (hg:W.grownBy W' none):Sd wb W' L R P k r X q:=⟨s.b.grown hg,(hg.block _ (lt_of s.bx) (by simp)).trans s.bx⟩
theorem Sd.drew:Sd wb W.drew L R P k r X q:=s.grown (grown_drew (grown_refl _ _))
theorem Sd.left (o:nl.Own wb W' L P k') (f:Fx L W W'):Sd wb W' L R P k' r X q:=⟨s.b.left o f,f.far.cs _ _ _ _ s.bx (by decide)⟩
theorem Sd.right (h:RN W' R P r') (hk:Kept R.any W W'):Sd wb W' L R P k r' X q:=⟨s.b.right h hk,s.b.cells s.bx (by decide) hk⟩
theorem Sd.clr {h1 h2:Nat} (h:RN W' { R with m1:=h1,m2:=h2 } P r') (hk:W.grownBy W' (some R.mr)) (l1:W.heap.size ≤ h1) (l2:W.heap.size ≤ h2):Sd wb W' L { R with m1:=h1,m2:=h2 } P k r' X q:=
 ⟨s.b.clr h hk l1 l2,s.b.cells s.bx (by decide) (Kept.one hk (.inr (.inr (.inr (.inl (.inl rfl))))))⟩
theorem Sd.dl {d':Dl} (hd:LAt W' L.dg d') (hg:W.grownBy W' (some L.dg)):Sd wb W' L R P { k with d:=d' } r X q:=by
 obtain ⟨o,f⟩:=fx_dl s.b.own hd hg
 exact s.left o f
theorem Sd.rdl {d':Dl} (hd:de.Both W' R.dg d') (hg:W.grownBy W' (some R.dg)):Sd wb W' L R P k { r with d:=d' } X q:=
 s.right (s.b.rn.put_dl hd hg) (Kept.one hg (.inr (.inr (.inr (.inr rfl)))))
theorem Sd.cell (i:Nat) (v:Value) (hv:(opc q)[i]?=some v):W.cell? ⟨X,i,none⟩=some v:=(cell_of_row _ _ _ _ _ _ s.bx).trans (by rw [opa,List.getElem?_toArray];exact hv)
theorem Sd.cells:W.cell? ⟨X,0,none⟩=some (.int .i64 q.kd)∧W.cell? ⟨X,1,none⟩=some (.int .i64 q.b)∧W.cell? ⟨X,2,none⟩=some (.int .i64 q.w)∧W.cell? ⟨X,3,none⟩=some (.bool q.y)∧W.cell? ⟨X,4,none⟩=some (.int .u32 q.x):=
 ⟨s.cell 0 _ rfl,s.cell 1 _ rfl,s.cell 2 _ rfl,s.cell 3 _ rfl,s.cell 4 _ rfl⟩
theorem Sd.note:W.rangeAt X 5 (nt q.n):=fun j v hv=>s.cell (5 + j) v (by rw [opc,show 5 + j=j + 5 from Nat.add_comm _ _];exact hv)
end
section
variable {wb w:World} {L:LL} {R:RL} {P:Pm} {k:Nr} (hB:B2 wb w L R P k k) (I:Inv P k) (hP:Pok P) (q:OpX)
include hB I hP
theorem does_x (hk0:¬ q.kd=0) (hk1:¬ q.kd=1) (hk2:¬ q.kd=2) (hk3:¬ q.kd=3) (hk4:¬ q.kd=4) (hk5:¬ q.kd=5) (hk6:¬ q.kd=6) (hk7:¬ q.kd=7) (hk8:¬ q.kd=8) (hk9:¬ q.kd=9):Calls Tryz.prog 27 #[.pointer (some ⟨L.q,0,none⟩),.pointer (some ⟨R.q,0,none⟩),.agg (opa q)] w fun e w'=>Dn wb P R.q e w':=by
 have s0:=Sd.new hB q
 obtain ⟨A,hA⟩:∃ A,w.heap.size=A:=⟨_,rfl⟩
 obtain ⟨W0,hW0⟩:∃ W,w.alloc (.cells (opa q) 65)=W:=⟨_,rfl⟩
 rw [hW0,hA] at s0
 obtain ⟨c0,c1,c2,c3,c4⟩:=s0.cells
 have S0:=qh s0
 have HI:=qh I
 have HP:=qh hP
 have e0:(q.kd == 0)=false:=by simpa using hk0
 have e1:(q.kd == 1)=false:=by simpa using hk1
 have e2:(q.kd == 2)=false:=by simpa using hk2
 have e3:(q.kd == 3)=false:=by simpa using hk3
 have e4:(q.kd == 4)=false:=by simpa using hk4
 have e5:(q.kd == 5)=false:=by simpa using hk5
 have e6:(q.kd == 6)=false:=by simpa using hk6
 have e7:(q.kd == 7)=false:=by simpa using hk7
 have e8:(q.kd == 8)=false:=by simpa using hk8
 have e9:(q.kd == 9)=false:=by simpa using hk9
 clear hk0 hk1 hk2 hk3 hk4 hk5 hk6 hk7 hk8 hk9
 clear hB I hP s0
 go_enter Tryz.func27,Tryz.ntmps27
 go_wp2_with fail
 go_ret2
 exact ⟨L,R,k,rfl,S0.out.b,rfl,HI.out⟩
theorem does_1 (hk:q.kd=1):Calls Tryz.prog 27 #[.pointer (some ⟨L.q,0,none⟩),.pointer (some ⟨R.q,0,none⟩),.agg (opa q)] w fun e w'=>Dn wb P R.q e w':=by
 have s0:=Sd.new hB q
 obtain ⟨A,hA⟩:∃ A,w.heap.size=A:=⟨_,rfl⟩
 obtain ⟨W0,hW0⟩:∃ W,w.alloc (.cells (opa q) 65)=W:=⟨_,rfl⟩
 rw [hW0,hA] at s0
 obtain ⟨c0,c1,c2,c3,c4⟩:=s0.cells
 have S0:=qh s0
 have HI:=qh I
 have HP:=qh hP
 have e0:(q.kd == 0)=false:=by simp [hk]
 have e1:(q.kd == 1)=true:=by simp [hk]
 clear hk
 clear hB I hP s0
 obtain ⟨x,hx⟩:∃ z,loadV P k q.b q.w=z:=⟨_,rfl⟩
 obtain ⟨y,hy⟩:∃ z,loadE P k q.b q.w=z:=⟨_,rfl⟩
 have HI2:=qh (HI.out.loadS HP.out q.b q.w)
 obtain ⟨k2,hk2⟩:∃ z,loadS P k q.b q.w=z:=⟨_,rfl⟩
 have HCL:=qh (fx_load S0.out.b.own q.b q.w)
 have HCR:Hid (∀ W,Sd wb W L R P k2 k A q→_):=qh fun W s=>rload_any s.b.rn HI.out q.b q.w
 rw [hk2] at HI2
 rw [hx,hy,hk2] at HCL
 rw [hx,hy,hk2] at HCR
 clear hk2 hx hy
 go_enter Tryz.func27,Tryz.ntmps27
 go_upto_region 1 with fail
 clear hA hW0
 go_wp2_with (first
  | (go_at_call 19;((with_reducible refine HCL.out.mono ?_);rintro e w1 ⟨rfl,hw1,hf1⟩;have S1:=qh (S0.out.left hw1 hf1);obtain ⟨d0,d1,d2,d3,d4⟩:=S1.out.cells;clear hw1 hf1))
  | (go_at_call 69;((with_reducible refine (HCR.out _ S1.out).mono ?_);rintro e w2 ⟨rfl,hw2,hk2⟩;have S2:=qh (S1.out.right hw2 hk2);clear hw2 hk2)))
 go_ret2
 exact ⟨L,R,k2,by simp,S2.out.b,rfl,HI2.out⟩
theorem does_2 (hk:q.kd=2):Calls Tryz.prog 27 #[.pointer (some ⟨L.q,0,none⟩),.pointer (some ⟨R.q,0,none⟩),.agg (opa q)] w fun e w'=>Dn wb P R.q e w':=by
 have s0:=Sd.new hB q
 obtain ⟨A,hA⟩:∃ A,w.heap.size=A:=⟨_,rfl⟩
 obtain ⟨W0,hW0⟩:∃ W,w.alloc (.cells (opa q) 65)=W:=⟨_,rfl⟩
 rw [hW0,hA] at s0
 obtain ⟨c0,c1,c2,c3,c4⟩:=s0.cells
 have S0:=qh s0
 have HI:=qh I
 have HP:=qh hP
 have e0:(q.kd == 0)=false:=by simp [hk]
 have e1:(q.kd == 1)=false:=by simp [hk]
 have e2:(q.kd == 2)=true:=by simp [hk]
 clear hk
 clear hB I hP s0
 obtain ⟨x,hx⟩:∃ z,storeV P k q.b q.w q.x=z:=⟨_,rfl⟩
 obtain ⟨y,hy⟩:∃ z,storeE P k q.b q.w q.x=z:=⟨_,rfl⟩
 have HI2:=qh (HI.out.storeS HP.out q.b q.w q.x)
 obtain ⟨k2,hk2⟩:∃ z,storeS P k q.b q.w q.x=z:=⟨_,rfl⟩
 have HCL:=qh (fx_store S0.out.b.own q.b q.w q.x)
 have HCR:Hid (∀ W,Sd wb W L R P k2 k A q→_):=qh fun W s=>rstore_any s.b.rn HI.out q.b q.w q.x
 rw [hk2] at HI2
 rw [hx,hy,hk2] at HCL
 rw [hx,hy,hk2] at HCR
 clear hk2 hx hy
 go_enter Tryz.func27,Tryz.ntmps27
 go_upto_region 1 with fail
 clear hA hW0
 go_wp2_with (first
  | (go_at_call 15;((with_reducible refine HCL.out.mono ?_);rintro e w1 ⟨rfl,hw1,hf1⟩;have S1:=qh (S0.out.left hw1 hf1);obtain ⟨d0,d1,d2,d3,d4⟩:=S1.out.cells;clear hw1 hf1))
  | (go_at_call 70;((with_reducible refine (HCR.out _ S1.out).mono ?_);rintro e w2 ⟨rfl,hw2,hk2⟩;have S2:=qh (S1.out.right hw2 hk2);clear hw2 hk2)))
 go_ret2
 exact ⟨L,R,k2,by simp,S2.out.b,rfl,HI2.out⟩
end
end Go.Proofs.YtcoimipgilkmbaaGreatDoor.py

namespace Go.Proofs.YtcoimipgilkmbaaGreatDoor.py
set_option linter.unusedVariables false
set_option linter.unusedSimpArgs false
set_option maxRecDepth 1000000
set_option maxHeartbeats 16000000
open Go Go.ChangeShapes Go.WideShapes Go.ChangeAt Go.RowKit Go.Shelf
open Go.Proofs.YtcoimipgilkmbaaGreatDoor.nr
open Go.Proofs.YtcoimipgilkmbaaGreatDoor.nl
open Go.Proofs.YtcoimipgilkmbaaGreatDoor.tt (OpX opc OpsAt cfg_at CfgAt Cfg Nt na nt zn bare zd fits row tyne lt_of U Tab TabK grown_refl grown_trans grown_alloc grown_setCells grown_drew grown_drewN yes Sl Next flat)
open Go.Proofs.YtcoimipgilkmbaaGreatDoor.kk (Ln St zl la ln cfind cdrop cuse cgoes cwrite cturn cput setAt setOf live fF Shp Cac Kept)
open Go.Proofs.YtcoimipgilkmbaaGreatDoor.bk (Bk rem kills puts putE fd fl Nd Rg dead fresh BkAt)
open Go.Proofs.YtcoimipgilkmbaaGreatDoor.mrk (Ms rdS wrS meets addE Dom MkAt)
open Go.Proofs.YtcoimipgilkmbaaGreatDoor.de (Dl sT gE rF aD LAt)
open Go.Proofs.YtcoimipgilkmbaaGreatDoor.oo (ref)
theorem askO_le (P:Pm) (k:Nr) (b:Int) (y:Bool):(askO P k b y).length ≤ 65536:=by
 unfold askO
 split
 ·split <;> simp
 ·simp
theorem takeO_le (P:Pm) (k:Nr) (n:Nt):(takeO P k n).length ≤ 65536:=by
 unfold takeO
 repeat' split
 all_goals simp
section
variable {wb w:World} {L:LL} {R:RL} {P:Pm} {k:Nr} (hB:B2 wb w L R P k k) (I:Inv P k) (hP:Pok P) (q:OpX)
include hB I hP
theorem does_0 (hk:q.kd=0):Calls Tryz.prog 27 #[.pointer (some ⟨L.q,0,none⟩),.pointer (some ⟨R.q,0,none⟩),.agg (opa q)] w fun e w'=>Dn wb P R.q e w':=by
 have s0:=Sd.new hB q
 obtain ⟨A,hA⟩:∃ A,w.heap.size=A:=⟨_,rfl⟩
 obtain ⟨W0,hW0⟩:∃ W,w.alloc (.cells (opa q) 65)=W:=⟨_,rfl⟩
 rw [hW0,hA] at s0
 obtain ⟨c0,c1,c2,c3,c4⟩:=s0.cells
 have S0:=qh s0
 have HI:=qh I
 have HP:=qh hP
 have e0:(q.kd == 0)=true:=by simp [hk]
 clear hk
 clear hB I hP s0
 have HLN:=qh (askO_le P k q.b q.y)
 obtain ⟨x,hx⟩:∃ z,askR P k q.b q.y=z:=⟨_,rfl⟩
 obtain ⟨y,hy⟩:∃ z,askE P k q.b q.y=z:=⟨_,rfl⟩
 obtain ⟨l,hl⟩:∃ z,askO P k q.b q.y=z:=⟨_,rfl⟩
 have HI2:=qh (HI.out.askS HP.out q.b q.y)
 obtain ⟨k2,hk2⟩:∃ z,askS P k q.b q.y=z:=⟨_,rfl⟩
 have HCL:=qh (fx_ask S0.out.b.own HI.out q.b q.y)
 have HCR:Hid (∀ W,Sd wb W L R P k2 k A q→_):=qh fun W s=>np.rask_any s.b.rn HI.out HP.out q.b q.y
 rw [hk2] at HI2
 rw [hl] at HLN
 rw [hx,hy,hl,hk2] at HCL
 rw [hx,hy,hl,hk2] at HCR
 clear hk2 hx hy hl
 go_enter Tryz.func27,Tryz.ntmps27
 go_upto_region 1 with fail
 clear hA hW0
 go_wp2_with (first
  | (go_at_call 16;((with_reducible refine HCL.out.mono ?_);rintro e w1 ⟨s1,rfl,ho1,hw1,hf1⟩;have S1:=qh (S0.out.left hw1 hf1);have O1:=qh ho1;obtain ⟨d0,d1,d2,d3,d4⟩:=S1.out.cells;clear ho1 hw1 hf1))
  | (go_at_call 68;((with_reducible refine (HCR.out _ S1.out).mono ?_);rintro e w2 ⟨s2,rfl,ho2,hw2,hk2⟩;have S2:=qh (S1.out.right hw2 hk2);have HQ:=qh (equal_yes s1 s2 l w2 (S1.out.b.out O1.out hk2).sl ho2.sl HLN.out);clear ho2 hw2 hk2))
  | (go_at_call 47;((with_reducible refine HQ.out.mono ?_);rintro e w3 ⟨rfl,hg3⟩;have S3:=qh (S2.out.grown hg3);clear hg3)))
 go_ret2
 exact ⟨L,R,k2,by simp,S3.out.b,rfl,HI2.out⟩
theorem does_3 (hst:0 ≤ q.n.st) (hk:q.kd=3):Calls Tryz.prog 27 #[.pointer (some ⟨L.q,0,none⟩),.pointer (some ⟨R.q,0,none⟩),.agg (opa q)] w fun e w'=>Dn wb P R.q e w':=by
 have s0:=Sd.new hB q
 obtain ⟨A,hA⟩:∃ A,w.heap.size=A:=⟨_,rfl⟩
 obtain ⟨W0,hW0⟩:∃ W,w.alloc (.cells (opa q) 65)=W:=⟨_,rfl⟩
 rw [hW0,hA] at s0
 obtain ⟨c0,c1,c2,c3,c4⟩:=s0.cells
 have S0:=qh s0
 have HI:=qh I
 have HP:=qh hP
 have e0:(q.kd == 0)=false:=by simp [hk]
 have e1:(q.kd == 1)=false:=by simp [hk]
 have e2:(q.kd == 2)=false:=by simp [hk]
 have e3:(q.kd == 3)=true:=by simp [hk]
 clear hk
 clear hB I hP s0
 have HST:=qh hst
 clear hst
 have rq:=S0.out.note
 have HLN:=qh (takeO_le P k q.n)
 obtain ⟨x,hx⟩:∃ z,takeG P k q.n=z:=⟨_,rfl⟩
 obtain ⟨y,hy⟩:∃ z,takeE P k q.n=z:=⟨_,rfl⟩
 obtain ⟨l,hl⟩:∃ z,takeO P k q.n=z:=⟨_,rfl⟩
 have HI2:=qh (HI.out.takeS HP.out (n:=q.n))
 obtain ⟨k2,hk2⟩:∃ z,takeS P k q.n=z:=⟨_,rfl⟩
 have HCL:=qh (fx_take S0.out.b.own HI.out HP.out q.n)
 have HCR:Hid (∀ W,Sd wb W L R P k2 k A q→_):=qh fun W s=>np.rtake_any s.b.rn HI.out HP.out q.n HST.out
 rw [hk2] at HI2
 rw [hl] at HLN
 rw [hx,hy,hl,hk2] at HCL
 rw [hx,hy,hl,hk2] at HCR
 clear hk2 hx hy hl
 go_enter Tryz.func27,Tryz.ntmps27
 go_upto_region 1 with fail
 clear hA hW0
 go_wp2_with (first
  | ((with_reducible refine load_o q.n 143 A 5 ?_ rq ?_);((rfl)))
  | ((with_reducible refine load_o q.n 151 A 5 ?_ rq1 ?_);((rfl)))
  | (go_at_call 20;((with_reducible refine HCL.out.mono ?_);rintro e w1 ⟨s1,rfl,ho1,hw1,hf1⟩;have S1:=qh (S0.out.left hw1 hf1);have O1:=qh ho1;have rq1:=S1.out.note;clear ho1 hw1 hf1))
  | (go_at_call 71;((with_reducible refine (HCR.out _ S1.out).mono ?_);rintro e w2 ⟨s2,rfl,ho2,hw2,hk2⟩;have S2:=qh (S1.out.right hw2 hk2);have HQ:=qh (equal_yes s1 s2 l w2 (S1.out.b.out O1.out hk2).sl ho2.sl HLN.out);clear ho2 hw2 hk2))
  | (go_at_call 47;((with_reducible refine HQ.out.mono ?_);rintro e w3 ⟨rfl,hg3⟩;have S3:=qh (S2.out.grown hg3);clear hg3)))
 go_ret2
 exact ⟨L,R,k2,by simp,S3.out.b,rfl,HI2.out⟩
end
end Go.Proofs.YtcoimipgilkmbaaGreatDoor.py

namespace Go.Proofs.YtcoimipgilkmbaaGreatDoor.py
set_option linter.unusedVariables false
set_option linter.unusedSimpArgs false
set_option maxRecDepth 1000000
set_option maxHeartbeats 16000000
open Go Go.ChangeShapes Go.WideShapes Go.ChangeAt Go.RowKit Go.Shelf
open Go.Proofs.YtcoimipgilkmbaaGreatDoor.nr
open Go.Proofs.YtcoimipgilkmbaaGreatDoor.nl
open Go.Proofs.YtcoimipgilkmbaaGreatDoor.tt (OpX opc OpsAt cfg_at CfgAt Cfg Nt na nt zn bare zd fits row tyne lt_of U Tab TabK grown_refl grown_trans grown_alloc grown_setCells grown_drew grown_drewN yes Sl Next flat)
open Go.Proofs.YtcoimipgilkmbaaGreatDoor.kk (Ln St zl la ln cfind cdrop cuse cgoes cwrite cturn cput setAt setOf live fF Shp Cac Kept)
open Go.Proofs.YtcoimipgilkmbaaGreatDoor.bk (Bk rem kills puts putE fd fl Nd Rg dead fresh BkAt)
open Go.Proofs.YtcoimipgilkmbaaGreatDoor.mrk (Ms rdS wrS meets addE Dom MkAt)
open Go.Proofs.YtcoimipgilkmbaaGreatDoor.de (Dl sT gE rF aD LAt)
open Go.Proofs.YtcoimipgilkmbaaGreatDoor.oo (ref)
section
variable {wb w:World} {L:LL} {R:RL} {P:Pm} {k:Nr} (hB:B2 wb w L R P k k) (I:Inv P k) (hP:Pok P) (q:OpX)
include hB I hP
theorem does_4 (hx:0 ≤ q.x∧q.x < 4294967296) (hk:q.kd=4):Calls Tryz.prog 27 #[.pointer (some ⟨L.q,0,none⟩),.pointer (some ⟨R.q,0,none⟩),.agg (opa q)] w fun e w'=>Dn wb P R.q e w':=by
 have s0:=Sd.new hB q
 obtain ⟨A,hA⟩:∃ A,w.heap.size=A:=⟨_,rfl⟩
 obtain ⟨W0,hW0⟩:∃ W,w.alloc (.cells (opa q) 65)=W:=⟨_,rfl⟩
 rw [hW0,hA] at s0
 obtain ⟨c0,c1,c2,c3,c4⟩:=s0.cells
 have S0:=qh s0
 have HI:=qh I
 have HP:=qh hP
 have e0:(q.kd == 0)=false:=by simp [hk]
 have e1:(q.kd == 1)=false:=by simp [hk]
 have e2:(q.kd == 2)=false:=by simp [hk]
 have e3:(q.kd == 3)=false:=by simp [hk]
 have e4:(q.kd == 4)=true:=by simp [hk]
 clear hk
 clear hB I hP s0
 have hxx:IntKind.u64.wrap (q.x + 1)=q.x + 1:=by have:=hx.2;have:=hx.1;simp [IntKind.wrap,IntKind.bits,IntKind.signed];omega
 have hx0:IntKind.u64.wrap q.x=q.x:=by have:=hx.2;have:=hx.1;simp [IntKind.wrap,IntKind.bits,IntKind.signed];omega
 have HX:=qh hx
 have HSZ:Hid (de.sa de.zs=_):=qh de.zs_sa
 clear hx
 obtain ⟨z,hz⟩:∃ z,de.bE k.d (q.x + 1)=z:=⟨_,rfl⟩
 have HI2:=qh (HI.out.deal (HI.out.dl.bD (s:=de.zs) (x:=q.x + 1) (by have:=HX.out.1;omega)))
 obtain ⟨dd,hdd⟩:∃ z,de.bD k.d de.zs (q.x + 1)=z:=⟨_,rfl⟩
 have HDC:Hid (∀ W,Sd wb W L R P k k A q→_):=qh fun W s=>own_deal s.b.own
 have HCL:Hid (∀ W,Sd wb W L R P k k A q→_):=qh fun W s=>de.begin_any (own_at s.b.own) de.zs (q.x + 1) HI.out.dl.d0 (Int.le_trans HI.out.dl.dn HI.out.dl.n8)
 have HCR:Hid (∀ W,Sd wb W L R P { k with d:=dd } k A q→_):=qh fun W s=>de.rbegin_any HI.out.dl s.b.rn.dl de.zs (q.x + 1)
 rw [hdd] at HI2
 rw [hz,hdd] at HCL HCR
 rw [HSZ.out] at HCL HCR
 clear hdd hz
 go_enter Tryz.func27,Tryz.ntmps27
 go_upto_region 1 with fail
 clear hA hW0
 have S1:=qh S0.out.drew
 have HD1:=qh (HDC.out _ S1.out)
 have HK0:Hid (W0.cell? ⟨A,4,none⟩=some (.int .u32 q.x)∧W0.cell? ⟨R.q,12,none⟩=some (.pointer (some ⟨R.dg,0,none⟩))):=qh ⟨S0.out.cells.2.2.2.2,S0.out.b.rn.c5⟩
 have HK1:Hid (W0.drew.cell? ⟨A,4,none⟩=some (.int .u32 q.x)∧W0.drew.cell? ⟨R.q,12,none⟩=some (.pointer (some ⟨R.dg,0,none⟩))):=qh ⟨S1.out.cells.2.2.2.2,S1.out.b.rn.c5⟩
 go_upto_region 19 with fail
 clear c0 c1 c2 c3 c4
 go_region_held3 (fun W=>W.cell? ⟨A,4,none⟩=some (.int .u32 q.x)∧W.cell? ⟨R.q,12,none⟩=some (.pointer (some ⟨R.dg,0,none⟩)))
  (first | exact HK0.out | exact HK1.out | exact HK2.out | exact HK3.out)
  (first
   | (go_at_call 24;((with_reducible refine HD1.out.mono ?_);rintro e w4 ⟨rfl,rfl⟩))
   | (go_at_call 37;((with_reducible refine (HCL.out _ S1.out).mono ?_);rintro e w2 ⟨rfl,hd2,hg2⟩;have S2:=qh (S1.out.dl hd2 hg2);have HK2:Hid (w2.cell? ⟨A,4,none⟩=some (.int .u32 q.x)∧w2.cell? ⟨R.q,12,none⟩=some (.pointer (some ⟨R.dg,0,none⟩))):=qh ⟨S2.out.cells.2.2.2.2,S2.out.b.rn.c5⟩;clear hd2 hg2))
   | (go_at_call 72;((with_reducible refine (HCR.out _ S2.out).mono ?_);rintro e w3 ⟨rfl,hd3,hg3⟩;have S3:=qh (S2.out.rdl hd3 hg3);have HK3:Hid (w3.cell? ⟨A,4,none⟩=some (.int .u32 q.x)∧w3.cell? ⟨R.q,12,none⟩=some (.pointer (some ⟨R.dg,0,none⟩))):=qh ⟨S3.out.cells.2.2.2.2,S3.out.b.rn.c5⟩;clear hd3 hg3)))
 go_wp2_with fail
 go_ret2
 exact ⟨L,R,{ k with d:=dd },by simp,S3.out.b,rfl,HI2.out⟩
theorem does_6 (hx:0 ≤ q.x∧q.x < 4294967296) (hk:q.kd=6):Calls Tryz.prog 27 #[.pointer (some ⟨L.q,0,none⟩),.pointer (some ⟨R.q,0,none⟩),.agg (opa q)] w fun e w'=>Dn wb P R.q e w':=by
 have s0:=Sd.new hB q
 obtain ⟨A,hA⟩:∃ A,w.heap.size=A:=⟨_,rfl⟩
 obtain ⟨W0,hW0⟩:∃ W,w.alloc (.cells (opa q) 65)=W:=⟨_,rfl⟩
 rw [hW0,hA] at s0
 obtain ⟨c0,c1,c2,c3,c4⟩:=s0.cells
 have S0:=qh s0
 have HI:=qh I
 have HP:=qh hP
 have e0:(q.kd == 0)=false:=by simp [hk]
 have e1:(q.kd == 1)=false:=by simp [hk]
 have e2:(q.kd == 2)=false:=by simp [hk]
 have e3:(q.kd == 3)=false:=by simp [hk]
 have e4:(q.kd == 4)=false:=by simp [hk]
 have e5:(q.kd == 5)=false:=by simp [hk]
 have e6:(q.kd == 6)=true:=by simp [hk]
 clear hk
 clear hB I hP s0
 have HX:=qh hx
 clear hx
 obtain ⟨z,hz⟩:∃ z,gE k.d=z:=⟨_,rfl⟩
 have HI2:=qh (HI.out.deal (HI.out.dl.fD (c:=q.x) HX.out.1 HX.out.2))
 obtain ⟨dd,hdd⟩:∃ z,de.fD k.d q.x=z:=⟨_,rfl⟩
 have HDC:Hid (∀ W,Sd wb W L R P k k A q→_):=qh fun W s=>own_deal s.b.own
 have HCL:Hid (∀ W,Sd wb W L R P k k A q→_):=qh fun W s=>de.fail_any (own_at s.b.own) q.x
 have HCR:Hid (∀ W,Sd wb W L R P { k with d:=dd } k A q→_):=qh fun W s=>de.rfail_any HI.out.dl s.b.rn.dl q.x
 rw [hdd] at HI2
 rw [hz,hdd] at HCL HCR
 clear hdd hz
 go_enter Tryz.func27,Tryz.ntmps27
 go_upto_region 1 with fail
 clear hA hW0
 have S1:=qh S0.out.drew
 have HD1:=qh (HDC.out _ S1.out)
 have HK0:Hid (W0.cell? ⟨A,4,none⟩=some (.int .u32 q.x)∧W0.cell? ⟨R.q,12,none⟩=some (.pointer (some ⟨R.dg,0,none⟩))):=qh ⟨S0.out.cells.2.2.2.2,S0.out.b.rn.c5⟩
 have HK1:Hid (W0.drew.cell? ⟨A,4,none⟩=some (.int .u32 q.x)∧W0.drew.cell? ⟨R.q,12,none⟩=some (.pointer (some ⟨R.dg,0,none⟩))):=qh ⟨S1.out.cells.2.2.2.2,S1.out.b.rn.c5⟩
 go_upto_region 25 with fail
 clear c0 c1 c2 c3 c4
 go_region_held3 (fun W=>W.cell? ⟨A,4,none⟩=some (.int .u32 q.x)∧W.cell? ⟨R.q,12,none⟩=some (.pointer (some ⟨R.dg,0,none⟩)))
  (first | exact HK0.out | exact HK1.out | exact HK2.out | exact HK3.out)
  (first
   | (go_at_call 24;((with_reducible refine HD1.out.mono ?_);rintro e w4 ⟨rfl,rfl⟩))
   | (go_at_call 39;((with_reducible refine (HCL.out _ S1.out).mono ?_);rintro e w2 ⟨rfl,hd2,hg2⟩;have S2:=qh (S1.out.dl hd2 hg2);have HK2:Hid (w2.cell? ⟨A,4,none⟩=some (.int .u32 q.x)∧w2.cell? ⟨R.q,12,none⟩=some (.pointer (some ⟨R.dg,0,none⟩))):=qh ⟨S2.out.cells.2.2.2.2,S2.out.b.rn.c5⟩;clear hd2 hg2))
   | (go_at_call 74;((with_reducible refine (HCR.out _ S2.out).mono ?_);rintro e w3 ⟨rfl,hd3,hg3⟩;have S3:=qh (S2.out.rdl hd3 hg3);have HK3:Hid (w3.cell? ⟨A,4,none⟩=some (.int .u32 q.x)∧w3.cell? ⟨R.q,12,none⟩=some (.pointer (some ⟨R.dg,0,none⟩))):=qh ⟨S3.out.cells.2.2.2.2,S3.out.b.rn.c5⟩;clear hd3 hg3)))
 go_wp2_with fail
 go_ret2
 exact ⟨L,R,{ k with d:=dd },by simp,S3.out.b,rfl,HI2.out⟩
theorem does_5 (hk:q.kd=5):Calls Tryz.prog 27 #[.pointer (some ⟨L.q,0,none⟩),.pointer (some ⟨R.q,0,none⟩),.agg (opa q)] w fun e w'=>Dn wb P R.q e w':=by
 have s0:=Sd.new hB q
 obtain ⟨A,hA⟩:∃ A,w.heap.size=A:=⟨_,rfl⟩
 obtain ⟨W0,hW0⟩:∃ W,w.alloc (.cells (opa q) 65)=W:=⟨_,rfl⟩
 rw [hW0,hA] at s0
 obtain ⟨c0,c1,c2,c3,c4⟩:=s0.cells
 have S0:=qh s0
 have HI:=qh I
 have HP:=qh hP
 have e0:(q.kd == 0)=false:=by simp [hk]
 have e1:(q.kd == 1)=false:=by simp [hk]
 have e2:(q.kd == 2)=false:=by simp [hk]
 have e3:(q.kd == 3)=false:=by simp [hk]
 have e4:(q.kd == 4)=false:=by simp [hk]
 have e5:(q.kd == 5)=true:=by simp [hk]
 clear hk
 clear hB I hP s0
 have HI2:=qh (HI.out.deal HI.out.dl.eD)
 have HD1:=qh (own_deal S0.out.b.own)
 have HCL:=qh (de.end_any (own_at S0.out.b.own) HI.out.dl.d0 (Int.le_trans HI.out.dl.dn HI.out.dl.n8))
 have HCR:Hid (∀ W,Sd wb W L R P { k with d:=de.eD k.d } k A q→_):=qh fun W s=>de.rend_any HI.out.dl s.b.rn.dl
 obtain ⟨x,hx⟩:∃ z,de.eC k.d=z:=⟨_,rfl⟩
 obtain ⟨y,hy⟩:∃ z,gE k.d=z:=⟨_,rfl⟩
 obtain ⟨dd,hdd⟩:∃ z,de.eD k.d=z:=⟨_,rfl⟩
 rw [hx,hy,hdd] at HCL HCR
 rw [hdd] at HI2
 clear hx hy hdd
 go_enter Tryz.func27,Tryz.ntmps27
 go_upto_region 1 with fail
 clear hA hW0
 go_wp2_with (first
  | (go_at_call 24;((with_reducible refine HD1.out.mono ?_);rintro e w4 ⟨rfl,rfl⟩))
  | (go_at_call 38;((with_reducible refine HCL.out.mono ?_);rintro e w1 ⟨rfl,hd1,hg1⟩;have S1:=qh (S0.out.dl hd1 hg1);have r5:=S1.out.b.rn.c5;clear hd1 hg1))
  | (go_at_call 73;((with_reducible refine (HCR.out _ S1.out).mono ?_);rintro e w2 ⟨rfl,hd2,hg2⟩;have S2:=qh (S1.out.rdl hd2 hg2);clear hd2 hg2)))
 go_ret2
 exact ⟨L,R,{ k with d:=dd },by simp,S2.out.b,rfl,HI2.out⟩
end
end Go.Proofs.YtcoimipgilkmbaaGreatDoor.py

namespace Go.Proofs.YtcoimipgilkmbaaGreatDoor.py
set_option linter.unusedVariables false
set_option linter.unusedSimpArgs false
set_option maxRecDepth 1000000
set_option maxHeartbeats 16000000
open Go Go.ChangeShapes Go.WideShapes Go.ChangeAt Go.RowKit Go.Shelf
open Go.Proofs.YtcoimipgilkmbaaGreatDoor.nr
open Go.Proofs.YtcoimipgilkmbaaGreatDoor.nl
open Go.Proofs.YtcoimipgilkmbaaGreatDoor.tt (OpX opc OpsAt cfg_at CfgAt Cfg Nt na nt zn bare zd fits row tyne lt_of U Tab TabK grown_refl grown_trans grown_alloc grown_setCells grown_drew grown_drewN yes Sl Next flat)
open Go.Proofs.YtcoimipgilkmbaaGreatDoor.kk (Ln St zl la ln cfind cdrop cuse cgoes cwrite cturn cput setAt setOf live fF Shp Cac Kept)
open Go.Proofs.YtcoimipgilkmbaaGreatDoor.bk (Bk rem kills puts putE fd fl Nd Rg dead fresh BkAt)
open Go.Proofs.YtcoimipgilkmbaaGreatDoor.mrk (Ms rdS wrS meets addE Dom MkAt)
open Go.Proofs.YtcoimipgilkmbaaGreatDoor.de (Dl sT gE rF aD LAt)
open Go.Proofs.YtcoimipgilkmbaaGreatDoor.oo (ref)
theorem note_at {W:World} {X:Nat} {q:OpX} (h:W.heap[X]?=some (oq q)):W.rangeAt X 5 (nt q.n):=fun j v hv=>(cell_of_row _ _ _ _ _ _ h).trans (by rw [opa,List.getElem?_toArray,opc,show 5 + j=j + 5 from Nat.add_comm _ _];exact hv)
structure Cp (wb W:World) (L:LL) (v:Value) (L':LL) (R:RL) (P:Pm) (ka kb k:Nr) (X:Nat) (q:OpX):Prop where
 a:LN W { L with bv:=v } P ka
 b:LN W L' P kb
 r:RN W R P k
 d:∀ g,{ L with bv:=v }.any g→¬ L'.any g
 e:∀ q ∈ L.c.gr,q.1 ≠ R.c.gl
 f:∀ q ∈ L'.c.gr,q.1 ≠ R.c.gl
 lo:∀ g,{ L with bv:=v }.any g→wb.heap.size ≤ g
 hi:∀ g,L'.any g→wb.heap.size ≤ g
 old:wb.grownBy W none
 rb:∀ g,R.any g→wb.heap.size ≤ g
 tb:Tb wb
 bx:W.heap[X]?=some (oq q)
theorem Cp.next {wb W W':World} {L L':LL} {v v':Value} {R:RL} {P:Pm} {ka ka' kb k:Nr} {X:Nat} {q:OpX} (c:Cp wb W L v L' R P ka kb k X q) (h:LN W' { L with bv:=v' } P ka') (hm:Mv W W' { L with bv:=v } v'):Cp wb W' L v' L' R P ka' kb k X q:=by
 obtain ⟨h1,h2⟩:=hm.old c.old c.lo
 have hf:=Fx.of c.a hm
 refine ⟨h,c.b.same (fun g hg=>hm.kp.block g (c.b.lt hg) (fun ha=>c.d g ha hg)) h.tb,rn_left c.r c.e hf,fun g hg=>?_,c.e,c.f,h2,c.hi,h1,c.rb,c.tb,hf.far.cs _ _ _ _ c.bx (by decide)⟩
 have hg':({ ({ L with bv:=v }:LL) with bv:=v' }:LL).any g:=hg
 rcases any_bv hg' with ha | ha
 ·exact c.d g ha
 ·rcases hm.nx with hx | hx
  ·exact c.d g (.inr (.inr (.inl (.inr (.inr (hx ▸ ha))))))
  ·intro hb
   have:=hx _ ha
   have:=c.b.lt hb
   omega
section
variable {wb w:World} {L:LL} {R:RL} {P:Pm} {k:Nr} (hB:B2 wb w L R P k k) (I:Inv P k) (hP:Pok P) (q:OpX)
include hB I hP
theorem does_7 (hk:q.kd=7):Calls Tryz.prog 27 #[.pointer (some ⟨L.q,0,none⟩),.pointer (some ⟨R.q,0,none⟩),.agg (opa q)] w fun e w'=>Dn wb P R.q e w':=by
 have s0:=Sd.new hB q
 obtain ⟨A,hA⟩:∃ A,w.heap.size=A:=⟨_,rfl⟩
 obtain ⟨W0,hW0⟩:∃ W,w.alloc (.cells (opa q) 65)=W:=⟨_,rfl⟩
 rw [hW0,hA] at s0
 obtain ⟨c0,c1,c2,c3,c4⟩:=s0.cells
 have S0:=qh s0
 have HI:=qh I
 have HP:=qh hP
 have e0:(q.kd == 0)=false:=by simp [hk]
 have e1:(q.kd == 1)=false:=by simp [hk]
 have e2:(q.kd == 2)=false:=by simp [hk]
 have e3:(q.kd == 3)=false:=by simp [hk]
 have e4:(q.kd == 4)=false:=by simp [hk]
 have e5:(q.kd == 5)=false:=by simp [hk]
 have e6:(q.kd == 6)=false:=by simp [hk]
 have e7:(q.kd == 7)=true:=by simp [hk]
 clear hk
 clear hB I hP s0
 have HI2:=qh (HI.out.deal HI.out.dl.oD).clrS
 have HD1:=qh (own_deal S0.out.b.own)
 have HCL:=qh (de.over_any (own_at S0.out.b.own))
 have HCR:Hid (∀ W,Sd wb W L R P { k with d:=de.oD k.d } k A q→_):=qh fun W s=>de.rover_any HI.out.dl s.b.rn.dl
 obtain ⟨sv,hs⟩:∃ z,de.oS k.d=z:=⟨_,rfl⟩
 obtain ⟨x,hx⟩:∃ z,de.oC k.d=z:=⟨_,rfl⟩
 obtain ⟨y,hy⟩:∃ z,de.oE k.d=z:=⟨_,rfl⟩
 obtain ⟨dd,hdd⟩:∃ z,de.oD k.d=z:=⟨_,rfl⟩
 rw [hs,hx,hy,hdd] at HCL HCR
 rw [hdd] at HI2
 clear hs hx hy hdd
 have HC1:Hid (∀ W,Sd wb W L R P { k with d:=dd } { k with d:=dd } A q→_):=qh fun W s=>fx_clear s.b.own
 have HC2:Hid (∀ W,Sd wb W L R P (clrS { k with d:=dd }) { k with d:=dd } A q→_):=qh fun W s=>mrk.rclear_any s.b.rn.mr
 go_enter Tryz.func27,Tryz.ntmps27
 go_upto_region 1 with fail
 clear hA hW0
 go_wp2_with (first
  | (go_at_call 24;((with_reducible refine HD1.out.mono ?_);rintro e w4 ⟨rfl,rfl⟩))
  | (go_at_call 40;((with_reducible refine HCL.out.mono ?_);rintro e w1 ⟨rfl,hd1,hg1⟩;have S1:=qh ((S0.out.dl hd1 hg1).grown (grown_alloc (grown_refl _ none) (.cells (de.sa sv) 76)));have r5:=S1.out.b.rn.c5;clear hd1 hg1))
  | ((with_reducible refine de.store_svN sv _ 32 240 ?_ ?_ ?_ ?_);((rfl));((rfl));((rfl)))
  | (go_at_call 75;((with_reducible refine (HCR.out _ S1.out).mono ?_);rintro e w2 ⟨rfl,hd2,hg2⟩;have S4:=qh ((S1.out.rdl hd2 hg2).grown (grown_alloc (grown_refl _ none) (.cells (de.sa sv) 76)));clear hd2 hg2))
  | ((with_reducible refine de.store_svN sv _ 35 249 ?_ ?_ ?_ ?_);((rfl));((rfl));((rfl)))
  | (go_at_call 18;((with_reducible refine (HC1.out _ S4.out).mono ?_);rintro e w5 ⟨rfl,hw5,hf5⟩;have S5:=qh (S4.out.left hw5 hf5);have r4:=S5.out.b.rn.c4;clear hw5 hf5))
  | (go_at_call 76;((with_reducible refine (HC2.out _ S5.out).mono ?_);rintro e w6 ⟨rfl,h1,h2,hr6,hg6,l1,l2⟩;have S6:=qh (S5.out.clr (S5.out.b.rn.clear hr6 hg6) hg6 l1 l2);clear hr6 hg6 l1 l2)))
 go_ret2
 exact ⟨L,{ R with m1:=h1,m2:=h2 },_,by simp,S6.out.b,rfl,HI2.out⟩
theorem does_8 (hk:q.kd=8):Calls Tryz.prog 27 #[.pointer (some ⟨L.q,0,none⟩),.pointer (some ⟨R.q,0,none⟩),.agg (opa q)] w fun e w'=>Dn wb P R.q e w':=by
 have s0:=Sd.new hB q
 obtain ⟨A,hA⟩:∃ A,w.heap.size=A:=⟨_,rfl⟩
 obtain ⟨W0,hW0⟩:∃ W,w.alloc (.cells (opa q) 65)=W:=⟨_,rfl⟩
 rw [hW0,hA] at s0
 obtain ⟨c0,c1,c2,c3,c4⟩:=s0.cells
 have S0:=qh s0
 have HI:=qh I
 have HP:=qh hP
 have e0:(q.kd == 0)=false:=by simp [hk]
 have e1:(q.kd == 1)=false:=by simp [hk]
 have e2:(q.kd == 2)=false:=by simp [hk]
 have e3:(q.kd == 3)=false:=by simp [hk]
 have e4:(q.kd == 4)=false:=by simp [hk]
 have e5:(q.kd == 5)=false:=by simp [hk]
 have e6:(q.kd == 6)=false:=by simp [hk]
 have e7:(q.kd == 7)=false:=by simp [hk]
 have e8:(q.kd == 8)=true:=by simp [hk]
 clear hk
 clear hB I hP s0
 have HI2:=qh HI.out.clrS
 have HC1:Hid (∀ W,Sd wb W L R P k k A q→_):=qh fun W s=>fx_clear s.b.own
 have HC2:Hid (∀ W,Sd wb W L R P (clrS k) k A q→_):=qh fun W s=>mrk.rclear_any s.b.rn.mr
 go_enter Tryz.func27,Tryz.ntmps27
 go_upto_region 1 with fail
 clear hA hW0
 go_wp2_with (first
  | (go_at_call 18;((with_reducible refine (HC1.out _ S0.out).mono ?_);rintro e w5 ⟨rfl,hw5,hf5⟩;have S5:=qh (S0.out.left hw5 hf5);have r4:=S5.out.b.rn.c4;clear hw5 hf5))
  | (go_at_call 76;((with_reducible refine (HC2.out _ S5.out).mono ?_);rintro e w6 ⟨rfl,h1,h2,hr6,hg6,l1,l2⟩;have S6:=qh (S5.out.clr (S5.out.b.rn.clear hr6 hg6) hg6 l1 l2);clear hr6 hg6 l1 l2)))
 go_ret2
 exact ⟨L,{ R with m1:=h1,m2:=h2 },_,by simp,S6.out.b,rfl,HI2.out⟩
theorem does_9 (hk:q.kd=9):Calls Tryz.prog 27 #[.pointer (some ⟨L.q,0,none⟩),.pointer (some ⟨R.q,0,none⟩),.agg (opa q)] w fun e w'=>Dn wb P R.q e w':=by
 have s0:=Sd.new hB q
 obtain ⟨A,hA⟩:∃ A,w.heap.size=A:=⟨_,rfl⟩
 obtain ⟨W0,hW0⟩:∃ W,w.alloc (.cells (opa q) 65)=W:=⟨_,rfl⟩
 rw [hW0,hA] at s0
 obtain ⟨c0,c1,c2,c3,c4⟩:=s0.cells
 have S0:=qh s0
 have HI:=qh I
 have HP:=qh hP
 have e0:(q.kd == 0)=false:=by simp [hk]
 have e1:(q.kd == 1)=false:=by simp [hk]
 have e2:(q.kd == 2)=false:=by simp [hk]
 have e3:(q.kd == 3)=false:=by simp [hk]
 have e4:(q.kd == 4)=false:=by simp [hk]
 have e5:(q.kd == 5)=false:=by simp [hk]
 have e6:(q.kd == 6)=false:=by simp [hk]
 have e7:(q.kd == 7)=false:=by simp [hk]
 have e8:(q.kd == 8)=false:=by simp [hk]
 have e9:(q.kd == 9)=true:=by simp [hk]
 clear hk
 clear hB I hP s0
 obtain ⟨v,bs,hl,hs,hi⟩:=S0.out.b.own.ex
 have HS:=qh hs
 have HCC:=qh (copy_any hl)
 have HCP:Hid (∀ W L',LN W L' P { k with bs:=bs }→W0.grownBy W none→(∀ g,L'.any g→W0.heap.size ≤ g)→Cp wb W L v L' R P { k with bs:=bs } { k with bs:=bs } k A q):=qh fun W L' hb hg ha=>by
  have s:=S0.out.grown hg
  refine ⟨hl.grown hg,hb,s.b.rn,fun g h1 h2=>?_,s.b.ap,fun p hp e=>?_,hi,fun g h=>Nat.le_trans S0.out.b.own.old.size (ha g h),s.b.own.old,s.b.rb,s.b.tb,s.bx⟩
  ·have:=hl.lt h1
   have:=ha g h2
   omega
  ·have:=ha p.1 (.inr (.inl (.inr (.inr ⟨p,hp,rfl⟩))))
   have:=S0.out.b.rn.lt (g:=R.c.gl) (.inr (.inl (.inr (.inl rfl))))
   omega
 have I2:=inv_same hs HI.out
 have HC1:Hid (∀ W L',Cp wb W L v L' R P { k with bs:=bs } { k with bs:=bs } k A q→_):=qh fun W L' c=>clear_any c.a
 have HC2:Hid (∀ W v' L',Cp wb W L v' L' R P (clrS { k with bs:=bs }) { k with bs:=bs } k A q→_):=qh fun W v' L' c=>take_any c.a I2.clrS HP.out q.n
 clear hl hs hi I2
 go_enter Tryz.func27,Tryz.ntmps27
 go_upto_region 1 with fail
 clear hA hW0
 go_wp2_with (first
  | (go_at_call 25;((with_reducible refine HCC.out.mono ?_);rintro e w1 ⟨L',rfl,hb1,hg1,ha1⟩;have C1:=qh (HCP.out _ L' hb1 hg1 ha1);clear hb1 hg1 ha1))
  | (go_at_call 18;((with_reducible refine (HC1.out _ L' C1.out).mono ?_);rintro e w2 ⟨rfl,v2,hl2,hm2⟩;have C2:=qh (C1.out.next hl2 hm2);have rq:=note_at C2.out.bx;clear hl2 hm2))
  | ((with_reducible refine load_o q.n 284 A 5 ?_ rq ?_);((rfl)))
  | (go_at_call 20;((with_reducible refine (HC2.out _ v2 L' C2.out).mono ?_);rintro e w3 ⟨s3,rfl,ho3,v3,b3,hl3,hs3,hm3⟩;have C3:=qh (C2.out.next hl3 hm3);clear ho3 hl3 hs3 hm3)))
 go_ret2
 have c:=C3.out
 exact ⟨L',R,k,rfl,⟨⟨⟨L'.bv,bs,c.b,HS.out,c.hi⟩,c.old⟩,c.r,c.f,c.rb,c.tb⟩,rfl,HI.out⟩
theorem does_any (hx:0 ≤ q.x∧q.x < 4294967296) (hst:0 ≤ q.n.st):Calls Tryz.prog 27 #[.pointer (some ⟨L.q,0,none⟩),.pointer (some ⟨R.q,0,none⟩),.agg (opa q)] w fun e w'=>Dn wb P R.q e w':=by
 by_cases h0:q.kd=0
 ·exact does_0 hB I hP q h0
 by_cases h1:q.kd=1
 ·exact does_1 hB I hP q h1
 by_cases h2:q.kd=2
 ·exact does_2 hB I hP q h2
 by_cases h3:q.kd=3
 ·exact does_3 hB I hP q hst h3
 by_cases h4:q.kd=4
 ·exact does_4 hB I hP q hx h4
 by_cases h5:q.kd=5
 ·exact does_5 hB I hP q h5
 by_cases h6:q.kd=6
 ·exact does_6 hB I hP q hx h6
 by_cases h7:q.kd=7
 ·exact does_7 hB I hP q h7
 by_cases h8:q.kd=8
 ·exact does_8 hB I hP q h8
 by_cases h9:q.kd=9
 ·exact does_9 hB I hP q h9
 exact does_x hB I hP q h0 h1 h2 h3 h4 h5 h6 h7 h8 h9
end
end Go.Proofs.YtcoimipgilkmbaaGreatDoor.py

namespace Go.Proofs.YtcoimipgilkmbaaGreatDoor.py
set_option linter.unusedVariables false
set_option linter.unusedSimpArgs false
set_option maxRecDepth 1000000
set_option maxHeartbeats 16000000
open Go Go.ChangeShapes Go.WideShapes Go.ChangeAt Go.RowKit Go.Shelf
open Go.Proofs.YtcoimipgilkmbaaGreatDoor.nr
open Go.Proofs.YtcoimipgilkmbaaGreatDoor.nl
open Go.Proofs.YtcoimipgilkmbaaGreatDoor.tt (OpX opc OpsAt cfg_at CfgAt Cfg Nt na nt zn bare zd fits row tyne lt_of U Tab TabK grown_refl grown_trans grown_alloc grown_setCells grown_drew grown_drewN yes Sl Next flat)
open Go.Proofs.YtcoimipgilkmbaaGreatDoor.kk (Ln St zl la ln cfind cdrop cuse cgoes cwrite cturn cput setAt setOf live fF Shp Cac Kept)
open Go.Proofs.YtcoimipgilkmbaaGreatDoor.bk (Bk rem kills puts putE fd fl Nd Rg dead fresh BkAt)
open Go.Proofs.YtcoimipgilkmbaaGreatDoor.mrk (Ms rdS wrS meets addE Dom MkAt)
open Go.Proofs.YtcoimipgilkmbaaGreatDoor.de (Dl sT gE rF aD LAt)
open Go.Proofs.YtcoimipgilkmbaaGreatDoor.oo (ref)
section
variable {w0 w:World} {L:LL} {P:Pm} {k:Nr} (o:nl.Own w0 w L P k)
include o
theorem own_flag:Calls Tryz.prog 30 #[.pointer (some ⟨L.dg,0,none⟩)] w fun e w'=>e = .returned (.bool k.d.fl)∧w=w':=by
 obtain ⟨v,b,hl,hs,hi⟩:=o.ex
 exact de.flag_any hl.dl
theorem own_rows:∀ q ∈ L.c.gr,q.1 < w.heap.size:=fun q hq=>by
 obtain ⟨v,bs,hl,hs,hi⟩:=o.ex
 exact hl.lt (.inr (.inl (.inr (.inr ⟨q,hq,rfl⟩))))
end
theorem b2_new {wb w1 w2:World} {L:LL} {R:RL} {P:Pm} {k:Nr} (hT:Tb wb) (o:nl.Own wb w1 L P k) (h:RN w2 R P k) (hg:w1.grownBy w2 none) (ha:∀ g,R.any g→w1.heap.size ≤ g):B2 wb w2 L R P k k:=
 ⟨o.grown hg,h,fun q hq e=>by have:=own_rows o q hq;have:=ha R.c.gl (.inr (.inl (.inr (.inl rfl))));omega,fun g hh=>Nat.le_trans o.old.size (ha g hh),hT⟩
theorem op_new {wb W:World} {L:LL} {R:RL} {P:Pm} {k r:Nr} (b:B2 wb W L R P k r) (q:OpX):(∃ c:Array Value,(W.alloc (.cells (opa opz) 65)).heap[W.heap.size]?=some (.cells c 65 (0,0))∧c.size=29)∧B2 wb ((W.alloc (.cells (opa opz) 65)).setCells W.heap.size 0 (opc q)) L R P k r∧((W.alloc (.cells (opa opz) 65)).setCells W.heap.size 0 (opc q)).rangeAt W.heap.size 0 (opc q):=by
 have hg:W.grownBy ((W.alloc (.cells (opa opz) 65)).setCells W.heap.size 0 (opc q)) none:=tt.grown_new (grown_alloc (grown_refl _ _) _) (Nat.le_refl _) (grown_setCells _ _ _ _)
 refine ⟨⟨_,heap_alloc_new _ _,opa_size _⟩,b.grown hg,fun j v hv=>?_⟩
 have:=nl.filled (heap_alloc_new W (.cells (opa opz) 65)) (vs:=opc q) (by rw [opc_len,opa_size])
 exact (cell_of_row _ _ _ _ _ _ this).trans (by rw [List.getElem?_toArray,Nat.zero_add];exact hv)
theorem note_new {W:World} (n:Nt):(W.alloc (.cells (na zn) 37)).heap[W.heap.size]?=some (.cells (na zn) 37 (0,0))∧W.grownBy ((W.alloc (.cells (na zn) 37)).setRow W.heap.size (na n)) none∧((W.alloc (.cells (na zn) 37)).setRow W.heap.size (na n)).heap[W.heap.size]?=some (nl.on n):=
 ⟨heap_alloc_new _ _,tt.grown_setRow (grown_alloc (grown_refl _ _) _) _ (Nat.le_refl _) _,setRow_heap _ _ _ _ _ _ (heap_alloc_new _ _)⟩
theorem neq_self (x:Nt):∀ w,(binOp .neq 37 (.agg (na x)) (.agg (na x))).run Tryz.prog w = .ok (.bool false) w:=fun w=>by rw [tt.q31n,decide_eq_true rfl];rfl
theorem neq_line (x:Ln):∀ w,(binOp .neq 50 (.agg (la x)) (.agg (la x))).run Tryz.prog w = .ok (.bool false) w:=fun w=>by rw [kk.q36n,decide_eq_true rfl];rfl
theorem neB (d:List Int) (hd:d.length=16) (w:World):(binOp .neq 35 (.agg (row d)) (.agg (row d))).run Tryz.prog w = .ok (.bool false) w:=by
 rw [run_neq_struct,kk.eq34k 10000 (by omega) w d d hd hd]
 simp
section
variable {w:World} {ops:Array Oper} {rest:List Oper} {a:Act} {Q:Exit→Act→World→Prop} {dst:Option Tmp} {ty:TypeId} {pos:String} {after:Array Edge}
theorem store_bZ (d:List Int) (hd:d.length=16) (x y:Tmp) (hx:a.eval (.tmp x) = .pointer (some ⟨w.heap.size,0,none⟩)) (hy:a.eval (.tmp y) = .agg (row d))
  (h:wpList Tryz.prog ops Q rest (a.put dst undef) (w.alloc (.cells (row d) 35))):wpList Tryz.prog ops Q (⟨dst,.store 35 (.tmp x) (.tmp y),ty,pos,after,none⟩ :: rest) a (w.alloc (.cells #[.int .u32 0,.int .u32 0,.int .u32 0,.int .u32 0,.int .u32 0,.int .u32 0,.int .u32 0,.int .u32 0,.int .u32 0,.int .u32 0,.int .u32 0,.int .u32 0,.int .u32 0,.int .u32 0,.int .u32 0,.int .u32 0] 35)):=by
 have hs:(row d).size=16:=by simp [tt.row,hd]
 refine wpList_store_row rfl 35 (.tmp x) (.tmp y) rfl w.heap.size (row d) hx hy 35 _ (heap_alloc_new _ _) (by rw [hs];exact nl.infoB) (by rw [hs];rfl) (all_oneCell_toArray (fun v hv=>by obtain ⟨x,_,rfl⟩:=List.mem_map.1 hv;rfl)) ?_
 rw [World.setRow_alloc_new];exact h
end
theorem brange_of {w:World} {g:Nat} {d:List Int} {t:TypeId} (h:w.heap[g]?=some (.cells (row d) t (0,0))):w.rangeAt g 0 (d.map U):=fun j v hv=>by
 refine (cell_of_row _ _ _ _ _ _ h).trans ?_
 rw [Nat.zero_add,tt.row,List.getElem?_toArray]
 exact hv
theorem namedB:∃ (t:TypeId) (m:Nat),Hid (Op.load 35=Op.load t)∧(∀ w,(isAgg t).run Tryz.prog w = .ok true w)∧(∀ w,(sizeOf t).run Tryz.prog w = .ok m w) ∧
  ∀ (g:Nat) (d:List Int) (w:World),d.length=16→w.rangeAt g 0 (d.map U)→(loadCellsFrom ⟨g,0,none⟩ 0 m #[]).run Tryz.prog w = .ok (row d) w:=
 ⟨35,16,qh rfl,Tryz.isAgg35,Tryz.sizeOf35,fun g d w hd hr=>by
  have:=run_loadCells_list (P:=Tryz.prog) w ⟨g,0,none⟩ (d.map U) (fun j v hv=>by rw [tt.add_lit];exact hr j v hv)
  simp only [loadCells] at this
  rw [List.length_map,hd] at this
  exact this⟩
theorem fd_len (o:Option Bk):(fd o).length=16:=by cases o with | none=>rfl | some x=>exact x.hd
theorem plays_long (c:Cfg) (core:Int) (ad:Option Addr) (len cap:Nat) (w:World) (hT:Tb w) (h:300 < len):Calls Tryz.prog 4 #[.agg c.cells,.int .i64 core,.slice ad len cap] w fun e w'=>e = .returned (.bool true)∧w.grownBy w' none:=by
 have hd:decide ((300:Int) < (len:Int))=true:=by simp;omega
 have hg0:w.grownBy (w.alloc (.cells c.cells 27)) none:=grown_alloc (grown_refl _ _) _
 have HW:=qh (works_any _ (hT.grown hg0))
 have HG0:=qh hg0
 clear hT h hg0
 unfold Cfg.cells at *
 go_enter Tryz.func4,Tryz.ntmps4
 go_wp2_with (go_at_call 10;((with_reducible refine HW.out.mono ?_);rintro e w3 ⟨rfl,hg3⟩;have HG3:=qh hg3;clear hg3))
 go_ret
 exact ⟨rfl,grown_trans HG0.out HG3.out⟩
theorem plays_no (c:Cfg) (core:Int) (ad:Option Addr) (len cap:Nat) (w:World) (hT:Tb w) (h:len ≤ 300) (hm:¬ (c.may∧0 ≤ core∧core < c.co)):Calls Tryz.prog 4 #[.agg c.cells,.int .i64 core,.slice ad len cap] w fun e w'=>e = .returned (.bool true)∧w.grownBy w' none:=by
 have hd:decide ((300:Int) < (len:Int))=false:=by simp;omega
 have hg0:w.grownBy (w.alloc (.cells c.cells 27)) none:=grown_alloc (grown_refl _ _) _
 obtain ⟨ec,hec,HN0,HR0⟩:∃ ec:Int,(ec != 0)=true∧(Calls Tryz.prog 8 #[.agg c.cells,.int .i64 core] (w.alloc (.cells c.cells 27)) fun e w'=>e = .returned (.tuple #[.pointer none,.int .i64 ec])∧(w.alloc (.cells c.cells 27)).grownBy w' none)∧∀ W,(Calls Tryz.prog 26 #[.agg c.cells,.int .i64 core] W fun e w'=>e = .returned (.tuple #[.pointer none,.int .i64 ec])∧W.grownBy w' none):=by
  by_cases hc:c.may
  ·have h1:core < 0 ∨ c.co ≤ core:=by
    by_cases h0:core < 0
    ·exact .inl h0
    ·exact .inr (by have:¬ (0 ≤ core∧core < c.co):=fun e=>hm ⟨hc,e⟩;omega)
   exact ⟨5,rfl,new_range c core _ (hT.grown hg0) hc h1,fun W=>rnew_range c core W hc h1⟩
  ·exact ⟨2,rfl,new_arg c core _ (hT.grown hg0) hc,fun W=>rnew_arg c core W hc⟩
 have HN:=qh HN0
 have HR:=qh HR0
 have HW:Hid (∀ w',w.grownBy w' none→_):=qh (fun w' h=>works_any w' (hT.grown h))
 have hcf:=cfg_at w c
 have HCF:=qh fun (W:World) (h:(w.alloc (.cells c.cells 27)).grownBy W none)=>CfgAt.grown hcf h
 obtain ⟨c0,c1,c2,c3,c4,c5,c6,c7⟩:=hcf
 have HG0:=qh hg0
 have hee:(ec != ec)=false:=by simp
 clear hT h hm hg0 HN0 HR0
 unfold Cfg.cells at HN HR HG0 HCF c0 c1 c2 c3 c4 c5 c6 c7 ⊢
 go_enter Tryz.func4,Tryz.ntmps4
 go_wp2_with (first
  | (go_at_call 8;((with_reducible refine HN.out.mono ?_);rintro e w2 ⟨rfl,hg2⟩;have HG2:=qh (grown_trans HG0.out hg2);obtain ⟨d0,d1,d2,d3,d4,d5,d6,d7⟩:=HCF.out _ hg2;clear hg2))
  | (go_at_call 26;((with_reducible refine (HR.out _).mono ?_);rintro e w4 ⟨rfl,hg4⟩;have HG4:=qh (grown_trans HG2.out hg4);clear hg4))
  | (go_at_call 10;((with_reducible refine (HW.out _ HG4.out).mono ?_);rintro e w3 ⟨rfl,hg3⟩;have HG3:=qh (grown_trans HG4.out hg3);clear hg3)))
 go_ret
 exact ⟨rfl,HG3.out⟩
end Go.Proofs.YtcoimipgilkmbaaGreatDoor.py
