/-
 A near of one's own: its backs in whatever order; its calls. Conditions: as NlA names them.
-/
import Derived.Test.YtcoimipgilkmbaaGreatDoorTl
import Derived.Test.YtcoimipgilkmbaaGreatDoorNlP
namespace Go.Proofs.YtcoimipgilkmbaaGreatDoor.nl
set_option linter.unusedVariables false
set_option linter.unusedSimpArgs false
set_option maxRecDepth 1000000
set_option maxHeartbeats 16000000
open Go Go.ChangeShapes Go.WideShapes Go.ChangeAt Go.RowKit Go.Shelf
open Go.Proofs.YtcoimipgilkmbaaGreatDoor.nr
open Go.Proofs.YtcoimipgilkmbaaGreatDoor.tt (Cfg Nt na nt zn bare zd fits row tyne lt_of U Tab TabK grown_refl grown_trans grown_alloc grown_setCells grown_drew grown_drewN yes Sl Next flat)
open Go.Proofs.YtcoimipgilkmbaaGreatDoor.kk (Ln St zl la ln cfind cdrop cuse cgoes cwrite cturn cput setAt setOf live fF Shp Cac Kept)
open Go.Proofs.YtcoimipgilkmbaaGreatDoor.bk (Bk rem kills puts putE fd fl Nd Rg dead fresh BkAt)
open Go.Proofs.YtcoimipgilkmbaaGreatDoor.mrk (Ms rdS wrS meets addE Dom MkAt)
open Go.Proofs.YtcoimipgilkmbaaGreatDoor.de (Dl sT gE rF aD LAt)
open Go.Proofs.YtcoimipgilkmbaaGreatDoor.oo (ref)
theorem Same.trans {a b c:List Bk} (h:Same a b) (k:Same b c):Same a c:=⟨fun y=>(k.look y).trans (h.look y),k.len.trans h.len,k.nd⟩
theorem Same.puts {bs bs':List Bk} (h:Same bs bs') (N:Int) (m:Nat) (b:Int) (d:List Int) (hd:d.length=16):Same (puts N m bs b d hd) (puts N m bs' b d hd):=by
 have hE:putE N m bs' b=putE N m bs b:=by unfold putE;rw [h.look,h.len]
 refine ⟨fun y=>?_,?_,bk.nd_puts _ _ _ _ _ h.nd⟩
 ·rw [bk.look_puts,bk.look_puts,hE,h.look]
 ·unfold bk.puts
  rw [hE]
  split
  ·simp [h.len]
  ·exact h.len
theorem rem_length {bs:List Bk} (b:Int):(rem bs b).length=if (bk.look bs b).isSome=true then bs.length - 1 else bs.length:=by
 cases hl:bk.look bs b with
 | none=>rw [bk.rem_none hl];rfl
 | some x=>have:=bk.rem_len hl;simp;omega
theorem Same.rem {bs bs':List Bk} (h:Same bs bs') (hn:Nd bs) (b:Int):Same (rem bs b) (rem bs' b):=by
 refine ⟨fun y=>?_,?_,bk.nd_rem _ h.nd⟩
 ·rw [bk.look_rem _ _ h.nd,bk.look_rem _ _ hn,h.look]
 ·rw [rem_length,rem_length,h.look,h.len]
theorem Same.kills {bs bs':List Bk} (h:Same bs bs') (hn:Nd bs) (b:Int):Same (kills bs b) (kills bs' b):=by
 refine ⟨fun y=>?_,?_,bk.nd_kills _ h.nd⟩
 ·rw [bk.look_kills _ _ h.nd,bk.look_kills _ _ hn,h.look,h.look]
 ·rw [bk.kills_len,bk.kills_len,h.len]
section
variable {P:Pm} {k:Nr} {bs':List Bk} (s:Same k.bs bs')
include s
theorem askE_same (b:Int) (wr:Bool):askE P { k with bs:=bs' } b wr=askE P k b wr:=by
 have h1:back P { k with bs:=bs' } b=back P k b:=rfl
 have h2:rdy P { k with bs:=bs' } b wr=rdy P k b wr:=rfl
 unfold askE
 rw [h1,h2]
 show (if b < 0 ∨ (P.N:Int) ≤ b then (2:Int) else if k.wt=true then 8 else if rdy P k b wr=true then 0 else if (bk.look bs' b).isSome=true then 110 else if back P k b=true∧bs'.length=P.m then 110 else 0)=_
 rw [s.look,s.len]
theorem goesOut_same (b:Int) (wr:Bool):goesOut P { k with bs:=bs' } b wr=goesOut P k b wr:=by
 unfold goesOut;rw [askE_same s];rfl
theorem askR_same (b:Int) (wr:Bool):askR P { k with bs:=bs' } b wr=askR P k b wr:=by
 unfold askR;rw [askE_same s];rfl
theorem askO_same (b:Int) (wr:Bool):askO P { k with bs:=bs' } b wr=askO P k b wr:=by
 unfold askO;rw [goesOut_same s];rfl
theorem askS_same (b:Int) (wr:Bool):∃ b2,askS P { k with bs:=bs' } b wr={ askS P k b wr with bs:=b2 }∧Same (askS P k b wr).bs b2:=by
 unfold askS
 rw [goesOut_same s]
 cases goesOut P k b wr
 ·exact ⟨bs',rfl,s⟩
 ·rw [if_pos rfl,if_pos rfl]
  refine ⟨_,rfl,?_⟩
  show Same (if back P k b=true then puts P.N P.m k.bs (gone P k b).1.b (gone P k b).1.d (gone P k b).1.h else k.bs) (if back P k b=true then puts P.N P.m bs' (gone P k b).1.b (gone P k b).1.d (gone P k b).1.h else bs')
  cases back P k b
  ·exact s
  ·exact s.puts _ _ _ _ _
variable (n:Nt)
theorem takeE_same:takeE P { k with bs:=bs' } n=takeE P k n:=by
 have h1:aw { k with bs:=bs' } n=aw k n:=rfl
 have h2:fitsAsk { k with bs:=bs' } n=fitsAsk k n:=rfl
 unfold takeE
 rw [h1,h2]
 show (if ¬ (fits P.c n∧n.t=P.core) then (2:Int) else if n.k=6 then (if aw k n=true∧fitsAsk k n=true then 0 else 8) else if n.k=7 then (if aw k n=true then 0 else 8) else if n.k=8 then (if (bk.look bs' n.b).isSome=true then 0 else 8) else 0)=_
 rw [s.look]
theorem takeG_same:takeG P { k with bs:=bs' } n=takeG P k n:=by
 unfold takeG;rw [takeE_same s]
theorem ackN_same:ackN P { k with bs:=bs' } n=ackN P k n:=by
 have h1:has P { k with bs:=bs' } n.b=has P k n.b:=rfl
 unfold ackN
 rw [h1]
 show (if has P k n.b=true then _ else match bk.look bs' n.b with | some x=>_ | none=>_)=_
 rw [s.look]
 rfl
theorem takeO_same:takeO P { k with bs:=bs' } n=takeO P k n:=by
 have h1:rfs { k with bs:=bs' } n=rfs k n:=rfl
 have h2:refN P { k with bs:=bs' } n=refN P k n:=rfl
 unfold takeO
 rw [takeE_same s,ackN_same s,h1,h2]
theorem takeS_same (hn:Nd k.bs):∃ b2,takeS P { k with bs:=bs' } n={ takeS P k n with bs:=b2 }∧Same (takeS P k n).bs b2:=by
 have h1:rfs { k with bs:=bs' } n=rfs k n:=rfl
 have h2:has P { k with bs:=bs' } n.b=has P k n.b:=rfl
 unfold takeS
 rw [takeE_same s,h1,h2]
 by_cases hE:takeE P k n ≠ 0
 ·rw [if_pos hE,if_pos hE];exact ⟨bs',rfl,s⟩
 ·rw [if_neg hE,if_neg hE]
  by_cases h6:n.k=6
  ·rw [if_pos h6,if_pos h6];exact ⟨bs',rfl,s⟩
  ·rw [if_neg h6,if_neg h6]
   by_cases h7:n.k=7
   ·rw [if_pos h7,if_pos h7];exact ⟨bs',rfl,s⟩
   ·rw [if_neg h7,if_neg h7]
    by_cases h8:n.k=8
    ·rw [if_pos h8,if_pos h8];exact ⟨_,rfl,s.rem hn _⟩
    ·rw [if_neg h8,if_neg h8]
     cases rfs k n
     ·rw [if_neg (show ¬ (false=true) by decide),if_neg (show ¬ (false=true) by decide)]
      refine ⟨_,rfl,?_⟩
      show Same (if has P k n.b=false∧fl (bk.look k.bs n.b)=true then kills k.bs n.b else k.bs) (if has P k n.b=false∧fl (bk.look bs' n.b)=true then kills bs' n.b else bs')
      rw [s.look]
      split
      ·exact s.kills hn _
      ·exact s
     ·rw [if_pos rfl,if_pos rfl];exact ⟨bs',rfl,s⟩
omit s in
theorem loadS_same (b i:Int):loadS P { k with bs:=bs' } b i={ loadS P k b i with bs:=bs' }:=by
 have h1:loadE P { k with bs:=bs' } b i=loadE P k b i:=rfl
 unfold loadS
 rw [h1]
 split <;> rfl
omit s in
theorem loadS_bs (b i:Int):(loadS P k b i).bs=k.bs:=by unfold loadS;split <;> rfl
omit s in
theorem storeS_same (b i x:Int):storeS P { k with bs:=bs' } b i x={ storeS P k b i x with bs:=bs' }:=by
 have h1:storeE P { k with bs:=bs' } b i x=storeE P k b i x:=rfl
 unfold storeS
 rw [h1]
 split <;> rfl
omit s in
theorem storeS_bs (b i x:Int):(storeS P k b i x).bs=k.bs:=by unfold storeS;split <;> rfl
theorem inv_same (I:Inv P k):Inv P { k with bs:=bs' }:=by
 refine ⟨I.shp,I.ch,I.dat,s.nd,fun x hx=>?_,by show bs'.length ≤ P.m;rw [s.len];exact I.bl,I.dom,I.dl,I.ak,fun hw=>⟨(I.rm hw).1,by show bk.look bs' k.ask.b=none;rw [s.look];exact (I.rm hw).2⟩,fun b hb=>by show bk.look bs' b=none;rw [s.look];exact I.ap b hb⟩
 have h1:=bk.look_some_of_mem s.nd hx
 rw [s.look] at h1
 exact I.rg x (bk.look_mem h1)
end
def far (t:TypeId):Bool:=!([96,151,149,50,158,188,156,161,126].contains t)
structure Far (L:LL) (w w':World):Prop where
 cs:∀ (g:Nat) (cs:Array Value) (t:TypeId) (fr:Nat × Nat),w.heap[g]?=some (Obj.cells cs t fr)→far t=true→w'.heap[g]?=some (Obj.cells cs t fr)
 mp:∀ (g:Nat) es cl,w.heap[g]?=some (Obj.map es cl)→g ≠ L.mb→w'.heap[g]?=some (Obj.map es cl)
 size:w.heap.size ≤ w'.heap.size
theorem Far.of {w w':World} {L:LL} {v v':Value} {P:Pm} {k:Nr} (hl:LN w { L with bv:=v } P k) (hm:Mv w w' { L with bv:=v } v'):Far L w w':=by
 refine ⟨fun g cs t fr hg hf=>(hm.kp.block g (lt_of hg) ?_).trans hg,fun g es cl hg hn=>(hm.kp.block g (lt_of hg) ?_).trans hg,hm.kp.size⟩
 ·have hty:ty w g t:=⟨_,_,hg⟩
  unfold far at hf
  simp only [List.contains_cons,List.contains_nil,Bool.or_false,Bool.not_eq_true',Bool.or_eq_false_iff,beq_eq_false_iff_ne] at hf
  obtain ⟨h1,h2,h3,h4,h5,h6,h7,h8,h9⟩:=hf
  exact hl.no hty h1 h2 h3 h4 h5 h6 h7 h8 h9
 ·have hz:tz w g:=⟨_,_,hg⟩
  rintro (e | (e | e | ⟨q,hq,e⟩) | (e | e | e) | (e | e) | e)
  ·exact ty_nz hl.tq hz e.symm
  ·exact ty_nz hl.tc hz e.symm
  ·exact ty_nz hl.ts hz e.symm
  ·exact ty_nz (hl.tr hq) hz e
  ·exact ty_nz hl.tt' hz e.symm
  ·exact ty_nz hl.tp hz e.symm
  ·exact ty_nz (hl.tv e) hz rfl
  ·exact ty_nz hl.tm hz e.symm
  ·exact hn e
  ·exact ty_nz hl.td hz e.symm
theorem Far.sl {w w':World} {L:LL} (f:Far L w w') {w1:World} {s:Value} {l:List Nt} (o:OutN w1 w s l):OutN w1 w' s l:=
 ⟨o.sl.of_block fun g hg=>by
  obtain ⟨cur,hc⟩:=o.sl.type g hg
  rw [f.cs g _ _ _ hc (by decide),hc],o.own⟩
structure Own (w0 w:World) (L:LL) (P:Pm) (k:Nr):Prop where
 ex:∃ v bs',LN w { L with bv:=v } P { k with bs:=bs' }∧Same k.bs bs'∧∀ g,{ L with bv:=v }.any g→w0.heap.size ≤ g
 old:w0.grownBy w none
section
variable {w0 w w':World} {L:LL} {P:Pm} {k:Nr}
theorem Own.of {k':Nr} {v v':Value} {b2:List Bk} (hold:w0.grownBy w none) (hi:∀ g,{ L with bv:=v }.any g→w0.heap.size ≤ g) (hl:LN w' { L with bv:=v' } P { k' with bs:=b2 }) (hs:Same k'.bs b2) (hm:Mv w w' { L with bv:=v } v'):Own w0 w' L P k':=by
 obtain ⟨h1,h2⟩:=hm.old hold hi
 exact ⟨⟨v',b2,hl,hs,h2⟩,h1⟩
theorem Own.grown (o:Own w0 w L P k) (hg:w.grownBy w' none):Own w0 w' L P k:=by
 obtain ⟨v,b,hl,hs,hi⟩:=o.ex
 exact ⟨⟨v,b,hl.grown hg,hs,hi⟩,grown_trans o.old hg⟩
theorem Own.from {w1:World} (o:Own w0 w L P k) (hg:w1.grownBy w0 none):Own w1 w L P k:=by
 obtain ⟨v,b,hl,hs,hi⟩:=o.ex
 exact ⟨⟨v,b,hl,hs,fun g hh=>Nat.le_trans hg.size (hi g hh)⟩,grown_trans hg o.old⟩
variable (o:Own w0 w L P k) (I:Inv P k) (hP:Pok P)
include o
theorem own_deal:Calls Tryz.prog 24 #[.pointer (some ⟨L.q,0,none⟩)] w fun e w'=>e = .returned (.pointer (some ⟨L.dg,0,none⟩))∧w=w':=by
 obtain ⟨v,b,hl,hs,hi⟩:=o.ex
 exact deal_any (L:={ L with bv:=v }) hl
theorem own_marked (b:Int):Calls Tryz.prog 34 #[.pointer (some ⟨L.q,0,none⟩),.int .i64 b] w fun e w'=>e = .returned (.tuple #[.bool (k.ms.r b),.bool (k.ms.w b)])∧w=w':=by
 obtain ⟨v,b,hl,hs,hi⟩:=o.ex
 exact marked_any (L:={ L with bv:=v }) hl _
theorem own_stamp:Calls Tryz.prog 28 #[.pointer (some ⟨L.dg,0,none⟩)] w fun e w'=>e = .returned (.int .u64 (sT k.d))∧w=w':=by
 obtain ⟨v,b,hl,hs,hi⟩:=o.ex
 exact de.stamp_any hl.dl
theorem own_line (b:Int):Calls Tryz.prog 21 #[.pointer (some ⟨L.q,0,none⟩),.int .i64 b] w fun e w'=>e = .returned (.tuple #[.agg (la (cfind P.c k.ss b).1),.bool (cfind P.c k.ss b).2])∧w.grownBy w' none:=by
 obtain ⟨v,b,hl,hs,hi⟩:=o.ex
 exact linem_any (L:={ L with bv:=v }) hl _
theorem own_load (b i:Int):Calls Tryz.prog 19 #[.pointer (some ⟨L.q,0,none⟩),.int .i64 b,.int .i64 i] w fun e w'=>e = .returned (.tuple #[.int .u32 (loadV P k b i),.int .i64 (loadE P k b i)])∧Own w0 w' L P (loadS P k b i)∧Far L w w':=by
 obtain ⟨v,bs,hl,hs,hi⟩:=o.ex
 refine (load_any hl b i).mono fun e w' ⟨he,v',hl',hm⟩=>⟨he,Own.of o.old hi (by rw [loadS_same] at hl';exact hl') (by rw [loadS_bs];exact hs) hm,Far.of hl hm⟩
theorem own_store (b i x:Int):Calls Tryz.prog 15 #[.pointer (some ⟨L.q,0,none⟩),.int .i64 b,.int .i64 i,.int .u32 x] w fun e w'=>e = .returned (.tuple #[.int .u32 (storeV P k b i x),.int .i64 (storeE P k b i x)])∧Own w0 w' L P (storeS P k b i x)∧Far L w w':=by
 obtain ⟨v,bs,hl,hs,hi⟩:=o.ex
 refine (store_any hl b i x).mono fun e w' ⟨he,v',hl',hm⟩=>⟨he,Own.of o.old hi (by rw [storeS_same] at hl';exact hl') (by rw [storeS_bs];exact hs) hm,Far.of hl hm⟩
theorem own_clear:Calls Tryz.prog 18 #[.pointer (some ⟨L.q,0,none⟩)] w fun e w'=>e = .returned (.tuple #[])∧Own w0 w' L P (clrS k)∧Far L w w':=by
 obtain ⟨v,bs,hl,hs,hi⟩:=o.ex
 exact (clear_any hl).mono fun e w' ⟨he,v',hl',hm⟩=>⟨he,Own.of o.old hi hl' hs hm,Far.of hl hm⟩
theorem own_at:LAt w L.dg k.d:=by
 obtain ⟨v,bs,hl,hs,hi⟩:=o.ex
 exact hl.dl
include I
theorem own_waits:Calls Tryz.prog 22 #[.pointer (some ⟨L.q,0,none⟩)] w fun e w'=>e = .returned (.tuple #[.agg (na (shown k)),.bool k.wt])∧w.grownBy w' none:=by
 obtain ⟨v,bs,hl,hs,hi⟩:=o.ex
 exact waits_any (L:={ L with bv:=v }) (k:={ k with bs:=bs }) hl (inv_same hs I)
theorem own_ask (b:Int) (wr:Bool):Calls Tryz.prog 16 #[.pointer (some ⟨L.q,0,none⟩),.int .i64 b,.bool wr] w fun e w'=>∃ s,e = .returned (.tuple #[.bool (askR P k b wr),s,.int .i64 (askE P k b wr)])∧OutN w w' s (askO P k b wr)∧Own w0 w' L P (askS P k b wr)∧Far L w w':=by
 obtain ⟨v,bs,hl,hs,hi⟩:=o.ex
 obtain ⟨b2,h2,h3⟩:=askS_same (P:=P) hs b wr
 refine (ask_any hl (inv_same hs I) b wr).mono fun e w' ⟨s,he,ho,v',hl',hm⟩=>⟨s,?_,?_,Own.of o.old hi (by rw [h2] at hl';exact hl') h3 hm,Far.of hl hm⟩
 ·rw [he,askR_same hs,askE_same hs]
 ·rw [askO_same hs] at ho;exact ho
include hP
theorem own_take (n:Nt):Calls Tryz.prog 20 #[.pointer (some ⟨L.q,0,none⟩),.agg (na n)] w fun e w'=>∃ s,e = .returned (.tuple #[s,.bool (takeG P k n),.int .i64 (takeE P k n)])∧OutN w w' s (takeO P k n)∧Own w0 w' L P (takeS P k n)∧Far L w w':=by
 obtain ⟨v,bs,hl,hs,hi⟩:=o.ex
 obtain ⟨b2,h2,h3⟩:=takeS_same (P:=P) hs n I.nd
 refine (take_any hl (inv_same hs I) hP n).mono fun e w' ⟨s,he,ho,v',b3,hl',hs',hm⟩=>⟨s,?_,?_,Own.of o.old hi (by rw [h2] at hl';exact hl') (h3.trans (by rw [h2] at hs';exact hs')) hm,Far.of hl hm⟩
 ·rw [he,takeG_same hs,takeE_same hs]
 ·rw [takeO_same hs] at ho;exact ho
end
theorem own_new (P:Pm) (hP:Pok P) (w:World) (hT:Tb w):Calls Tryz.prog 8 #[.agg P.c.cells,.int .i64 P.core] w fun e w'=>∃ L:LL,e = .returned (.tuple #[.pointer (some ⟨L.q,0,none⟩),.int .i64 0])∧Own w w' L P (newS P):=
 (new_ok P hP w hT).mono fun e w' ⟨L,he,hl,hg,ha⟩=>⟨L,he,⟨L.bv,[],hl,Same.refl bk.nd_nil,ha⟩,hg⟩
end Go.Proofs.YtcoimipgilkmbaaGreatDoor.nl
