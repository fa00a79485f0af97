/-
  A core's side of the caches as plain data: what it has, what Ask, Load, Store, Take answer and make of it; what holds of each. No condition but what each theorem names.
  What holds of a near is kept by Ask, Load, Store, Take, by its deal's calls, by Clear. No condition but what each theorem names.
  What holds of a near is kept by Take; what goes out; what it waits for; that what a transaction wrote is kept; that data which goes out is what the core had last: plain data. No condition but what each theorem names.
  What a near tells the home: that what a transaction marked is kept, that data which goes out is what the core had last: plain data. No condition but what each theorem names.
-/
import Derived.Test.YtcoimipgilkmbaaGreatDoorTl
import Derived.Test.YtcoimipgilkmbaaGreatDoorCaz
import Derived.Test.YtcoimipgilkmbaaGreatDoorBkx
import Derived.Test.YtcoimipgilkmbaaGreatDoorMkx
import Derived.Test.YtcoimipgilkmbaaGreatDoorDex
import Derived.Test.YtcoimipgilkmbaaGreatDoorFi
namespace Go.Proofs.YtcoimipgilkmbaaGreatDoor.nr
set_option linter.unusedVariables false
set_option linter.unusedSimpArgs false
set_option maxRecDepth 1000000
set_option maxHeartbeats 16000000
open Go
open Go.Proofs.YtcoimipgilkmbaaGreatDoor.tt (Cfg Nt bare zd fits)
open Go.Proofs.YtcoimipgilkmbaaGreatDoor.kk (Ln St zl cfind cdrop cuse cgoes cwrite cturn cput setAt setOf live fF upd del Shp)
open Go.Proofs.YtcoimipgilkmbaaGreatDoor.bk (Bk rem kills puts putE fd fl Nd Rg dead fresh)
open Go.Proofs.YtcoimipgilkmbaaGreatDoor.mrk (Ms rdS wrS meets addE Dom)
open Go.Proofs.YtcoimipgilkmbaaGreatDoor.de (Dl sT gE rF aD)
open Go.Proofs.YtcoimipgilkmbaaGreatDoor.oo (ref)
structure Pm where
 c:Cfg
 core:Int
 N:Nat
 m:Nat
structure Nr where
 ss:List St
 bs:List Bk
 ms:Ms
 d:Dl
 ask:Nt
 wt:Bool
section
variable (P:Pm) (k:Nr)
def line (b:Int):Option Ln:=fF P.c k.ss b
def rdy (b:Int) (wr:Bool):Bool:=(cfind P.c k.ss b).2 && (!wr || decide ((cfind P.c k.ss b).1.s ≠ 1))
def gone (b:Int):Ln × Bool:=cgoes P.c k.ss b
def back (b:Int):Bool:=(gone P k b).2 && decide ((gone P k b).1.s ≠ 1)
def askE (b:Int) (wr:Bool):Int:=if b < 0 ∨ (P.N:Int) ≤ b then 2 else if k.wt=true then 8 else if rdy P k b wr=true then 0 else if (bk.look k.bs b).isSome=true then 110 else if back P k b=true∧k.bs.length=P.m then 110 else 0
def goesOut (b:Int) (wr:Bool):Bool:=decide (askE P k b wr=0) && !rdy P k b wr
def askN (b:Int) (wr:Bool):Nt:=bare (if wr=true then 2 else 1) P.core (-1) b (sT k.d) 0 false false
def putN (v:Ln):Nt:=⟨3,P.core,-1,v.b,0,0,true,k.ms.any v.b,v.d,v.h⟩
def askO (b:Int) (wr:Bool):List Nt:=if goesOut P k b wr=true then (if back P k b=true then [putN P k (gone P k b).1,askN P k b wr] else [askN P k b wr]) else []
def askR (b:Int) (wr:Bool):Bool:=decide (askE P k b wr=0) && rdy P k b wr
def askS (b:Int) (wr:Bool):Nr:=if goesOut P k b wr=true then
 { ss:=if (gone P k b).2=true then (cdrop P.c k.ss (gone P k b).1.b).1 else k.ss,bs:=if back P k b=true then puts P.N P.m k.bs (gone P k b).1.b (gone P k b).1.d (gone P k b).1.h else k.bs,ms:=k.ms,d:=k.d,ask:=askN P k b wr,wt:=true } else k
def loadE (b i:Int):Int:=if (cfind P.c k.ss b).2=false then 4 else if i < 0 ∨ 15 < i then 5 else 0
def loadV (b i:Int):Int:=if loadE P k b i=0 then (cfind P.c k.ss b).1.d.getD i.toNat 0 else 0
def loadS (b i:Int):Nr:=if loadE P k b i=0 then { k with ss:=(cuse P.c k.ss b).1,ms:=if 0 < k.d.de then rdS P.N k.ms b else k.ms } else k
def storeE (b i x:Int):Int:=(cwrite P.c k.ss b i x).2
def storeV (b i x:Int):Int:=if storeE P k b i x=0 then (cfind P.c k.ss b).1.d.getD i.toNat 0 else 0
def storeS (b i x:Int):Nr:=if storeE P k b i x=0 then { k with ss:=(cwrite P.c k.ss b i x).1,ms:=if 0 < k.d.de then wrS P.N k.ms b else k.ms } else k
def aw (n:Nt):Bool:=k.wt && decide (k.ask.b=n.b)
def fitsAsk (n:Nt):Bool:=(!decide (k.ask.k=2) || decide (n.s=3)) && (!decide (k.ask.k=1) || !decide (n.s=3))
def takeE (n:Nt):Int:=if ¬ (fits P.c n∧n.t=P.core) then 2 else if n.k=6 then (if aw k n=true∧fitsAsk k n=true then 0 else 8) else if n.k=7 then (if aw k n=true then 0 else 8) else if n.k=8 then (if (bk.look k.bs n.b).isSome=true then 0 else 8) else 0
def met (n:Nt):Bool:=meets k.ms n.k n.b
def rfs (n:Nt):Bool:=ref (sT k.d) (met k n)
def refN (n:Nt):Nt:=bare 10 P.core (-1) n.b (sT k.d) 0 false false
def doneN (n:Nt):Nt:=bare 11 P.core (-1) n.b 0 0 false false
def has (b:Int):Bool:=(cfind P.c k.ss b).2 && decide ((cfind P.c k.ss b).1.s ≠ 1)
def ackN (n:Nt):Nt:=if has P k n.b=true then ⟨9,P.core,-1,n.b,0,0,true,false,(cfind P.c k.ss n.b).1.d,(cfind P.c k.ss n.b).1.h⟩ else match bk.look k.bs n.b with
 | some x=>if x.l=true then ⟨9,P.core,-1,n.b,0,0,true,false,x.d,x.hd⟩ else bare 9 P.core (-1) n.b 0 0 false false
 | none=>bare 9 P.core (-1) n.b 0 0 false false
def takeO (n:Nt):List Nt:=if takeE P k n ≠ 0 then [] else if n.k=6 then [doneN P n] else if n.k=7 ∨ n.k=8 then [] else if rfs k n=true then [refN P k n] else [ackN P k n]
def takeG (n:Nt):Bool:=decide (takeE P k n=0) && (decide (n.k=7) && rF k.d n.st)
def lineOf (n:Nt):Ln:=⟨n.b,n.s,n.d,n.hd⟩
def takeS (n:Nt):Nr:=if takeE P k n ≠ 0 then k else if n.k=6 then { k with ss:=(cput P.c k.ss (lineOf n)).1,wt:=false } else if n.k=7 then { k with wt:=false } else if n.k=8 then { k with bs:=rem k.bs n.b } else
 if rfs k n=true then { k with d:=aD k.d (met k n) n.st } else
 { k with d:=aD k.d (met k n) n.st,bs:=if has P k n.b=false∧fl (bk.look k.bs n.b)=true then kills k.bs n.b else k.bs,ss:=if n.k=5 then (cdrop P.c k.ss n.b).1 else (cturn P.c k.ss n.b 1).1 }
def clrS:Nr:={ k with ms:=Ms.zero }
end
def newS (P:Pm):Nr:=⟨kk.empty P.c,[],Ms.zero,de.nw P.c.ne,bare 0 0 0 0 0 0 false false,false⟩
structure Pok (P:Pm):Prop where
 may:P.c.may
 data:P.c.data=(P.N:Int)
 backs:P.c.ba=(P.m:Int)
 c0:0 ≤ P.core
 c1:P.core < P.c.co
structure Inv (P:Pm) (k:Nr):Prop where
 shp:Shp P.c k.ss
 ch:kk.Inv P.c k.ss
 dat:∀ b,(line P k b).isSome=true→0 ≤ b∧b < (P.N:Int)
 nd:Nd k.bs
 rg:Rg (P.N:Int) k.bs
 bl:k.bs.length ≤ P.m
 dom:Dom (P.N:Int) k.ms
 dl:de.Inv k.d
 ak:k.wt=true→(0 ≤ k.ask.b∧k.ask.b < (P.N:Int))∧(k.ask.k=1 ∨ k.ask.k=2)
 rm:k.wt=true→(cgoes P.c k.ss k.ask.b).2=false∧bk.look k.bs k.ask.b=none
 ap:∀ b,(line P k b).isSome=true→bk.look k.bs b=none
section
variable {P:Pm} {k:Nr}
theorem cf2 (b:Int):(cfind P.c k.ss b).2=(line P k b).isSome:=by rw [kk.cfind_fF];rfl
theorem cf1 (b:Int):(cfind P.c k.ss b).1=(line P k b).getD zl:=by rw [kk.cfind_fF];rfl
theorem Pok.small (h:Pok P):P.N ≤ 256:=by
 have:=h.may.fits.bl
 have h2:=h.data
 unfold Cfg.data at h2
 have h3:=h.may.fits.mul
 omega
theorem line_b {b:Int} {l:Ln} (h:line P k b=some l):l.b=b∧live l=true:=by
 unfold line at h
 rw [kk.fF_row] at h
 unfold kk.inRow at h
 have:=List.find?_some h
 exact ⟨(kk.isOf_iff.1 this).2,(kk.isOf_iff.1 this).1⟩
theorem line_mem {b:Int} {l:Ln} (h:line P k b=some l):l ∈ (setAt P.c k.ss b).1:=by
 unfold line at h
 rw [kk.fF_row] at h
 exact List.mem_of_find?_eq_some h
theorem Inv.lmay (I:Inv P k) {b:Int} {l:Ln} (h:line P k b=some l):l.may:=by
 obtain ⟨j,hj⟩:=List.getElem?_of_mem (line_mem h)
 exact (I.ch.set _ _ (I.shp.at_ b) j l hj (line_b h).2).2
end
end Go.Proofs.YtcoimipgilkmbaaGreatDoor.nr

namespace Go.Proofs.YtcoimipgilkmbaaGreatDoor.nr
set_option linter.unusedVariables false
set_option linter.unusedSimpArgs false
set_option maxRecDepth 1000000
set_option maxHeartbeats 16000000
open Go
open Go.Proofs.YtcoimipgilkmbaaGreatDoor.tt (Cfg Nt bare zd fits)
open Go.Proofs.YtcoimipgilkmbaaGreatDoor.kk (Ln St zl cfind cdrop cuse cgoes cwrite cturn cput setAt setOf live fF upd del Shp)
open Go.Proofs.YtcoimipgilkmbaaGreatDoor.bk (Bk rem kills puts putE fd fl Nd Rg dead fresh)
open Go.Proofs.YtcoimipgilkmbaaGreatDoor.mrk (Ms rdS wrS meets addE Dom)
open Go.Proofs.YtcoimipgilkmbaaGreatDoor.de (Dl sT gE rF aD)
open Go.Proofs.YtcoimipgilkmbaaGreatDoor.oo (ref)
section
variable {P:Pm} {k:Nr}
theorem Inv.hs (I:Inv P k):∀ b,k.ss[setOf P.c b]?=some (setAt P.c k.ss b):=I.shp.at_
theorem gone_line (I:Inv P k) {b:Int} (hg:(gone P k b).2=true):line P k (gone P k b).1.b=some (gone P k b).1∧(gone P k b).1.b ≠ b∧0 ≤ b∧b < 256∧line P k b=none:=by
 have hv:=I.shp.vc_lt b
 obtain ⟨h1,h2⟩:=kk.goes_set I.ch I.hs b hv hg
 have hb:0 ≤ b∧b < 256:=by
  by_cases h:0 ≤ b∧b < 256
  ·exact h
  ·have:=kk.goes_out b (c:=P.c) (ss:=k.ss) h
   unfold gone at hg;rw [this] at hg;cases hg
 have hroom:¬ ∃ l ∈ (setAt P.c k.ss b).1,live l=false ∨ l.b=b:=fun hx=>by
  have:=(kk.room_iff hb).2 hx
  unfold gone at hg;rw [this] at hg;cases hg
 have hall:∀ l ∈ (setAt P.c k.ss b).1,live l=true∧l.b ≠ b:=fun l hl=>by
  refine ⟨?_,fun e=>hroom ⟨l,hl,.inr e⟩⟩
  cases h:live l
  ·exact absurd ⟨l,hl,.inl h⟩ hroom
  ·rfl
 have hvm:(gone P k b).1 ∈ (setAt P.c k.ss b).1:=by
  unfold gone cgoes
  rw [if_pos hb]
  unfold gone cgoes at hg
  rw [if_pos hb] at hg
  cases hw:kk.wayFor (setAt P.c k.ss b).1 b with
  | some i=>rw [hw] at hg;cases hg
  | none=>
   show (setAt P.c k.ss b).1.getD _ zl ∈ _
   rw [List.getD_eq_getElem?_getD,List.getElem?_eq_getElem hv]
   exact List.getElem_mem hv
 obtain ⟨hl,hne⟩:=hall _ hvm
 have hset:setAt P.c k.ss (gone P k b).1.b=setAt P.c k.ss b:=by
  unfold setAt
  rw [show setOf P.c (gone P k b).1.b=setOf P.c b from h1]
 refine ⟨?_,hne,hb.1,hb.2,?_⟩
 ·unfold line
  rw [kk.fF_row,hset]
  unfold kk.inRow
  obtain ⟨j,hj⟩:=List.getElem?_of_mem hvm
  cases hf:(setAt P.c k.ss b).1.find? (kk.isOf (gone P k b).1.b) with
  | none=>
   have:=List.find?_eq_none.1 hf _ hvm
   exact absurd (kk.isOf_iff.2 ⟨hl,rfl⟩) (by simpa using this)
  | some l=>
   have hi:=kk.isOf_iff.1 (List.find?_some hf)
   obtain ⟨i,hi'⟩:=List.getElem?_of_mem (List.mem_of_find?_eq_some hf)
   have:=I.ch.one _ _ (I.hs b) i j l _ hi' hj hi.1 hl hi.2
   subst this
   rw [hi'] at hj;cases hj;rfl
 ·unfold line
  rw [kk.fF_row]
  unfold kk.inRow
  exact List.find?_eq_none.2 fun l hl2=>by
   intro h
   exact (hall l hl2).2 (kk.isOf_iff.1 h).2
theorem room_back (I:Inv P k) {b:Int} (hg:(gone P k b).2=true):(cgoes P.c (cdrop P.c k.ss (gone P k b).1.b).1 b).2=false:=by
 obtain ⟨_,_,h0,h1,_⟩:=gone_line I hg
 have h2:=kk.drop_room I.ch I.hs b (I.shp.vc_lt b) ⟨h0,h1⟩ hg
 rw [kk.put_code b ⟨h0,h1⟩] at h2
 cases h:(cgoes P.c (cdrop P.c k.ss (gone P k b).1.b).1 b).2
 ·rfl
 ·rw [show cgoes P.c (cdrop P.c k.ss (cgoes P.c k.ss b).1.b).1 b=cgoes P.c (cdrop P.c k.ss (gone P k b).1.b).1 b from rfl,h] at h2;cases h2
theorem line_of {ss:List St} {bs:List Bk} {ms:Ms} {d:Dl} {a:Nt} {t:Bool} (b:Int):line P ⟨ss,bs,ms,d,a,t⟩ b=fF P.c ss b:=rfl
theorem goesOut_iff {b:Int} {wr:Bool}:goesOut P k b wr=true ↔ (0 ≤ b∧b < (P.N:Int))∧k.wt=false∧rdy P k b wr=false∧bk.look k.bs b=none∧¬ (back P k b=true∧k.bs.length=P.m):=by
 unfold goesOut askE
 by_cases h1:b < 0 ∨ (P.N:Int) ≤ b
 ·rw [if_pos h1];simp;omega
 ·rw [if_neg h1]
  cases h2:k.wt
  ·cases h3:rdy P k b wr
   ·cases h4:bk.look k.bs b with
    | some x=>simp
    | none=>
     by_cases h5:back P k b=true∧k.bs.length=P.m
     ·simp [h5.1,h5.2]
     ·have:¬ (b < 0)∧¬ (P.N:Int) ≤ b:=by omega
      simp [h5];omega
   ·simp
  ·simp
theorem back_iff {b:Int}:back P k b=true ↔ (gone P k b).2=true∧(gone P k b).1.s ≠ 1:=by unfold back;simp
theorem Inv.askS (h:Pok P) (I:Inv P k) (b:Int) (wr:Bool):Inv P (askS P k b wr):=by
 unfold nr.askS
 cases hg:goesOut P k b wr
 ·exact I
 ·rw [if_pos rfl]
  obtain ⟨⟨b0,b1⟩,hw,hr,hl,hb⟩:=goesOut_iff.1 hg
  have hN:=h.small
  have hk:(askN P k b wr).b=b:=rfl
  cases hgo:(gone P k b).2
  ·have hbk:back P k b=false:=by
    cases hx:back P k b
    ·rfl
    ·have:=(back_iff.1 hx).1;rw [hgo] at this;cases this
   simp only [Bool.false_eq_true,if_false,hbk]
   refine ⟨I.shp,I.ch,I.dat,I.nd,I.rg,I.bl,I.dom,I.dl,fun _=>⟨by rw [hk];exact ⟨b0,b1⟩,?_⟩,fun _=>⟨by rw [hk];exact hgo,by rw [hk];exact hl⟩,I.ap⟩
   show (if wr=true then (2:Int) else 1)=1 ∨ (if wr=true then (2:Int) else 1)=2
   cases wr <;> simp
  ·obtain ⟨g1,g2,g3,g4,g5⟩:=gone_line I hgo
   have hlv:bk.look k.bs (gone P k b).1.b=none:=I.ap _ (by rw [g1];rfl)
   have hdv:=I.dat _ (show (line P k (gone P k b).1.b).isSome=true by rw [g1];rfl)
   have hfd:fF P.c (cdrop P.c k.ss (gone P k b).1.b).1=del (fF P.c k.ss) (gone P k b).1.b:=kk.fF_drop I.ch I.hs _
   have hlook:∀ y,y ≠ (gone P k b).1.b→bk.look (if back P k b=true then puts P.N P.m k.bs (gone P k b).1.b (gone P k b).1.d (gone P k b).1.h else k.bs) y=bk.look k.bs y:=fun y hy=>by
    split
    ·rw [bk.look_puts]
     rw [if_neg (fun e=>hy e.2)]
    ·rfl
   simp only [if_true]
   refine ⟨I.shp.cdrop _,I.ch.cdrop I.hs _,fun y hy=>?_,?_,?_,?_,I.dom,I.dl,fun _=>⟨by rw [hk];exact ⟨b0,b1⟩,?_⟩,fun _=>⟨by rw [hk];exact room_back I hgo,?_⟩,fun y hy=>?_⟩
   ·rw [line_of,hfd] at hy
    unfold del at hy
    split at hy
    ·cases hy
    ·exact I.dat y hy
   ·split
    ·exact bk.nd_puts _ _ _ _ _ I.nd
    ·exact I.nd
   ·split
    ·exact bk.rg_puts _ _ _ I.rg
    ·exact I.rg
   ·split
    ·rename_i hbk
     have hlen:k.bs.length ≠ P.m:=fun e=>hb ⟨hbk,e⟩
     have:=I.bl
     unfold puts
     split
     ·rw [List.length_append];simp;omega
     ·exact I.bl
    ·exact I.bl
   ·show (if wr=true then (2:Int) else 1)=1 ∨ (if wr=true then (2:Int) else 1)=2
    cases wr <;> simp
   ·rw [hk]
    show bk.look _ b=none
    rw [hlook b (fun e=>g2 e.symm)];exact hl
   ·rw [line_of,hfd] at hy
    unfold del at hy
    split at hy
    ·cases hy
    ·rename_i hne
     show bk.look _ y=none
     rw [hlook y hne];exact I.ap y hy
theorem dom_rdS {N:Nat} {s:Ms} (b:Int) (h:Dom (N:Int) s):Dom (N:Int) (rdS N s b):=by
 unfold rdS
 split
 ·rename_i h0
  unfold addE at h0
  split at h0
  ·cases h0
  ·exact mrk.dom_rd h (by omega)
 ·exact h
theorem dom_wrS {N:Nat} {s:Ms} (b:Int) (h:Dom (N:Int) s):Dom (N:Int) (wrS N s b):=by
 unfold wrS
 split
 ·rename_i h0
  unfold addE at h0
  split at h0
  ·cases h0
  ·exact mrk.dom_wr h (by omega)
 ·exact h
theorem Inv.cache (I:Inv P k) (hN:P.N ≤ 256) {ss:List St} {ms:Ms} (h1:Shp P.c ss) (h2:kk.Inv P.c ss) (h3:∀ b,(fF P.c ss b).isSome=true→(line P k b).isSome=true) (h4:∀ b,0 ≤ b∧b < 256→(cgoes P.c k.ss b).2=false→(cgoes P.c ss b).2=false) (hm:Dom (P.N:Int) ms):Inv P { k with ss:=ss,ms:=ms }:=
 ⟨h1,h2,fun b hb=>I.dat b (h3 b hb),I.nd,I.rg,I.bl,hm,I.dl,I.ak,fun hw=>⟨h4 _ (by have:=(I.ak hw).1;show 0 ≤ k.ask.b∧k.ask.b < 256;omega) (I.rm hw).1,(I.rm hw).2⟩,fun b hb=>I.ap b (h3 b hb)⟩
theorem Inv.loadS (h:Pok P) (I:Inv P k) (b i:Int):Inv P (loadS P k b i):=by
 unfold nr.loadS
 split
 ·refine I.cache h.small (I.shp.cuse b) (I.ch.cuse I.hs b) (fun y hy=>?_) (fun y hy hr=>kk.room_use I.hs hy b hr) ?_
  ·rw [kk.fF_use I.hs] at hy;exact hy
  ·split
   ·exact dom_rdS _ I.dom
   ·exact I.dom
 ·exact I
theorem Inv.storeS (h:Pok P) (I:Inv P k) (b i x:Int):Inv P (storeS P k b i x):=by
 unfold nr.storeS
 split
 ·rename_i h0
  obtain ⟨hi,hf⟩:=kk.fF_write I.hs b i x h0
  have hb:(line P k b).isSome=true:=by
   have hn:(cfind P.c k.ss b).2=true:=by
    unfold storeE cwrite at h0
    unfold cfind
    cases hn:(setAt P.c k.ss b).1.findIdx? (kk.isOf b) with
    | none=>rw [hn] at h0;cases h0
    | some i=>rfl
   rw [← cf2];exact hn
  refine I.cache h.small (I.shp.cwrite b i x) (I.ch.cwrite I.hs b i x) (fun y hy=>?_) (fun y hy hr=>kk.room_write I.hs hy b i x hr) ?_
  ·rw [hf] at hy
   unfold upd at hy
   split at hy
   ·rename_i e;rw [e];exact hb
   ·exact hy
  ·split
   ·exact dom_wrS _ I.dom
   ·exact I.dom
 ·exact I
theorem Inv.clrS (I:Inv P k):Inv P (clrS k):=⟨I.shp,I.ch,I.dat,I.nd,I.rg,I.bl,mrk.dom_zero _,I.dl,I.ak,I.rm,I.ap⟩
theorem Inv.deal (I:Inv P k) {d:Dl} (hd:de.Inv d):Inv P { k with d:=d }:=⟨I.shp,I.ch,I.dat,I.nd,I.rg,I.bl,I.dom,hd,I.ak,I.rm,I.ap⟩
theorem Inv.newS (h:Pok P):Inv P (newS P):=by
 have hse:=h.may.sets
 have hwa:=h.may.ways
 have hne:1 ≤ P.c.ne∧P.c.ne ≤ 8:=tt.hb_bounds (h.may.1 6 (by omega))
 have hF:=kk.fF_empty P.c
 refine ⟨⟨h.may,?_,?_⟩,kk.Inv.empty _,fun b hb=>?_,bk.nd_nil,fun x hx=>by simp [nr.newS] at hx,Nat.zero_le _,mrk.dom_zero _,de.Inv.nw hne.1 hne.2,fun hx=>by simp [nr.newS] at hx,fun hx=>by simp [nr.newS] at hx,fun b hb=>rfl⟩
 ·show ((kk.empty P.c).length:Int)=P.c.se
  unfold kk.empty;simp;omega
 ·intro p hp
  have hp':p ∈ kk.empty P.c:=hp
  unfold kk.empty at hp'
  obtain rfl:=(List.mem_replicate.1 hp').2
  simp;omega
 ·have:line P (nr.newS P) b=none:=by unfold line;rw [show (nr.newS P).ss=kk.empty P.c from rfl,hF]
  rw [this] at hb;cases hb
end
end Go.Proofs.YtcoimipgilkmbaaGreatDoor.nr

namespace Go.Proofs.YtcoimipgilkmbaaGreatDoor.nr
set_option linter.unusedVariables false
set_option linter.unusedSimpArgs false
set_option maxRecDepth 1000000
set_option maxHeartbeats 16000000
open Go
open Go.Proofs.YtcoimipgilkmbaaGreatDoor.tt (Cfg Nt bare zd fits)
open Go.Proofs.YtcoimipgilkmbaaGreatDoor.kk (Ln St zl cfind cdrop cuse cgoes cwrite cturn cput setAt setOf live fF upd del Shp)
open Go.Proofs.YtcoimipgilkmbaaGreatDoor.bk (Bk rem kills puts putE fd fl Nd Rg dead fresh)
open Go.Proofs.YtcoimipgilkmbaaGreatDoor.mrk (Ms rdS wrS meets addE Dom)
open Go.Proofs.YtcoimipgilkmbaaGreatDoor.de (Dl sT gE rF aD)
open Go.Proofs.YtcoimipgilkmbaaGreatDoor.oo (ref)
section
variable {P:Pm} {k:Nr} {n:Nt}
theorem fit_note (h:Pok P) (hf:fits P.c n) (ht:n.t=P.core):(n.k=4 ∨ n.k=5 ∨ n.k=6 ∨ n.k=7 ∨ n.k=8)∧(0 ≤ n.b∧n.b < (P.N:Int))∧n.f=-1∧(n.k=6→1 ≤ n.s∧n.s ≤ 3)∧(n.k=6→n.h=true):=by
 obtain ⟨ho,hc,hb⟩:=hf
 have hr:=(tt.rule_ok n ho.1 ho.2.1).1 ho
 have h0:=h.c0
 have hd:=h.data
 have hT:tt.tH n.k=false:=by
  cases hx:tt.tH n.k
  ·rfl
  ·have:=hr.at_
   rw [hx] at this
   simp at this
   omega
 have hk:n.k=4 ∨ n.k=5 ∨ n.k=6 ∨ n.k=7 ∨ n.k=8:=by
  unfold tt.tH at hT
  have:=ho.1
  simp at hT
  omega
 have ha:=hr.at_
 rw [hT] at ha
 exact ⟨hk,⟨ho.2.1.1,by omega⟩,by simpa using ha,hr.s6,fun e=>hr.h36 (.inr e)⟩
theorem takeE_fit (hE:takeE P k n=0):fits P.c n∧n.t=P.core:=by
 unfold takeE at hE
 split at hE
 ·cases hE
 ·rename_i h;exact Decidable.not_not.1 h
theorem takeE_data (hk:n.k=6) (hE:takeE P k n=0):aw k n=true∧fitsAsk k n=true:=by
 have hf:=takeE_fit hE
 unfold takeE at hE
 rw [if_neg (fun h=>h hf),if_pos hk] at hE
 by_cases h:aw k n=true∧fitsAsk k n=true
 ·exact h
 ·rw [if_neg h] at hE;cases hE
theorem aw_iff:aw k n=true ↔ k.wt=true∧k.ask.b=n.b:=by unfold aw;simp
theorem lineOf_may (h:Pok P) (hk:n.k=6) (hE:takeE P k n=0):(lineOf n).may:=by
 obtain ⟨hf,ht⟩:=takeE_fit hE
 obtain ⟨_,hb,_,hs,_⟩:=fit_note h hf ht
 have:=h.small
 exact ⟨⟨hb.1,by show n.b < 256;omega⟩,(hs hk).1,(hs hk).2⟩
theorem put_ok (h:Pok P) (I:Inv P k) (hk:n.k=6) (hE:takeE P k n=0):(cput P.c k.ss (lineOf n)).2=0:=by
 obtain ⟨hw,hb⟩:=aw_iff.1 (takeE_data hk hE).1
 refine kk.cput_room _ (lineOf_may h hk hE) ?_
 have:=(I.rm hw).1
 rw [hb] at this
 exact this
theorem put_line (h:Pok P) (I:Inv P k) (hk:n.k=6) (hE:takeE P k n=0):fF P.c (cput P.c k.ss (lineOf n)).1=upd (fF P.c k.ss) n.b (lineOf n):=kk.fF_put I.hs (lineOf n) (put_ok h I hk hE)
theorem look_rem' {bs:List Bk} {b y:Int} (h:Nd bs) (hy:bk.look bs y=none):bk.look (rem bs b) y=none:=by
 rw [bk.look_rem b y h];split
 ·rfl
 ·exact hy
theorem look_kills' {bs:List Bk} {b y:Int} (h:Nd bs) (hy:bk.look bs y=none):bk.look (kills bs b) y=none:=by
 rw [bk.look_kills b y h];split
 ·rename_i e;subst e;rw [hy];rfl
 ·exact hy
theorem turn_lines (I:Inv P k) (b y:Int):(fF P.c (cturn P.c k.ss b 1).1 y).isSome=(line P k y).isSome:=by
 by_cases hc:(cturn P.c k.ss b 1).2=0
 ·obtain ⟨_,h2,h3⟩:=kk.fF_turn I.hs b 1 hc
  rw [h3]
  unfold upd
  split
  ·rename_i e;subst e;exact h2.symm
  ·rfl
 ·rw [kk.cturn_no b 1 hc];rfl
theorem Inv.takeS (h:Pok P) (I:Inv P k):Inv P (takeS P k n):=by
 unfold nr.takeS
 by_cases hE:takeE P k n=0
 ·rw [if_neg (by simpa using hE)]
  obtain ⟨hf,ht⟩:=takeE_fit hE
  obtain ⟨hks,hb,_,_,_⟩:=fit_note h hf ht
  have hN:=h.small
  by_cases h6:n.k=6
  ·rw [if_pos h6]
   obtain ⟨hw,hab⟩:=aw_iff.1 (takeE_data h6 hE).1
   have hp:=put_line h I h6 hE
   refine ⟨I.shp.cput _,I.ch.cput I.hs _,fun y hy=>?_,I.nd,I.rg,I.bl,I.dom,I.dl,fun hx=>(by cases hx),fun hx=>(by cases hx),fun y hy=>?_⟩
   ·rw [line_of,hp] at hy
    unfold upd at hy
    split at hy
    ·rename_i e;rw [e];exact hb
    ·exact I.dat y hy
   ·rw [line_of,hp] at hy
    unfold upd at hy
    split at hy
    ·rename_i e
     show bk.look k.bs y=none
     rw [e,← hab];exact (I.rm hw).2
    ·exact I.ap y hy
  ·rw [if_neg h6]
   by_cases h7:n.k=7
   ·rw [if_pos h7]
    exact ⟨I.shp,I.ch,I.dat,I.nd,I.rg,I.bl,I.dom,I.dl,fun hx=>(by cases hx),fun hx=>(by cases hx),I.ap⟩
   ·rw [if_neg h7]
    by_cases h8:n.k=8
    ·rw [if_pos h8]
     refine ⟨I.shp,I.ch,I.dat,bk.nd_rem _ I.nd,bk.rg_rem _ I.rg,Nat.le_trans (bk.rem_le _ _) I.bl,I.dom,I.dl,I.ak,fun hw=>⟨(I.rm hw).1,look_rem' I.nd (I.rm hw).2⟩,fun y hy=>look_rem' I.nd (I.ap y hy)⟩
    ·rw [if_neg h8]
     have hda:de.Inv (aD k.d (met k n) n.st):=I.dl.aD _ _
     split
     ·exact I.deal hda
     ·have hbs:∀ y,bk.look k.bs y=none→bk.look (if has P k n.b=false∧fl (bk.look k.bs n.b)=true then kills k.bs n.b else k.bs) y=none:=fun y hy=>by
       split
       ·exact look_kills' I.nd hy
       ·exact hy
      have hln:∀ y,(fF P.c (if n.k=5 then (cdrop P.c k.ss n.b).1 else (cturn P.c k.ss n.b 1).1) y).isSome=true→(line P k y).isSome=true:=fun y hy=>by
       split at hy
       ·rw [show fF P.c (cdrop P.c k.ss n.b).1=del (fF P.c k.ss) n.b from kk.fF_drop I.ch I.hs _] at hy
        unfold del at hy
        split at hy
        ·cases hy
        ·exact hy
       ·rw [turn_lines I] at hy;exact hy
      refine ⟨?_,?_,fun y hy=>I.dat y (hln y hy),?_,?_,?_,I.dom,hda,I.ak,fun hw=>⟨?_,hbs _ (I.rm hw).2⟩,fun y hy=>hbs _ (I.ap y (hln y hy))⟩
      ·show Shp P.c (if n.k=5 then _ else _)
       split
       ·exact I.shp.cdrop _
       ·exact I.shp.cturn _ _
      ·show kk.Inv P.c (if n.k=5 then _ else _)
       split
       ·exact I.ch.cdrop I.hs _
       ·exact I.ch.cturn I.hs _ _
      ·show Nd (if _ then _ else _)
       split
       ·exact bk.nd_kills _ I.nd
       ·exact I.nd
      ·show Rg _ (if _ then _ else _)
       split
       ·exact bk.rg_kills _ I.rg
       ·exact I.rg
      ·show (if _ then _ else _:List Bk).length ≤ _
       split
       ·rw [bk.kills_len];exact I.bl
       ·exact I.bl
      ·have hak:0 ≤ k.ask.b∧k.ask.b < 256:=by have:=(I.ak hw).1;omega
       show (cgoes P.c (if n.k=5 then (cdrop P.c k.ss n.b).1 else (cturn P.c k.ss n.b 1).1) k.ask.b).2=false
       split
       ·exact kk.room_drop I.hs hak _ (I.rm hw).1
       ·exact kk.room_turn I.hs hak _ _ (I.rm hw).1
 ·rw [if_pos hE];exact I
end
end Go.Proofs.YtcoimipgilkmbaaGreatDoor.nr

namespace Go.Proofs.YtcoimipgilkmbaaGreatDoor.nr
set_option linter.unusedVariables false
set_option linter.unusedSimpArgs false
set_option maxRecDepth 1000000
set_option maxHeartbeats 16000000
open Go
open Go.Proofs.YtcoimipgilkmbaaGreatDoor.tt (Cfg Nt bare zd fits)
open Go.Proofs.YtcoimipgilkmbaaGreatDoor.kk (Ln St zl cfind cdrop cuse cgoes cwrite cturn cput setAt setOf live fF upd del Shp)
open Go.Proofs.YtcoimipgilkmbaaGreatDoor.bk (Bk rem kills puts putE fd fl Nd Rg dead fresh)
open Go.Proofs.YtcoimipgilkmbaaGreatDoor.mrk (Ms rdS wrS meets addE Dom)
open Go.Proofs.YtcoimipgilkmbaaGreatDoor.de (Dl sT gE rF aD)
open Go.Proofs.YtcoimipgilkmbaaGreatDoor.oo (ref)
section
variable {P:Pm} {k:Nr} {n:Nt}
theorem sT_open (I:Inv P k) (h:0 < k.d.de):sT k.d ≠ 0:=by
 have hd:k.d.de ≠ 0:=by omega
 unfold sT
 rw [if_neg hd];exact I.dl.st0 hd
theorem kept (I:Inv P k) (hE:takeE P k n=0) (ho:0 < k.d.de) (hm:(n.k=4∧k.ms.w n.b=true) ∨ (n.k=5∧k.ms.any n.b=true)) :
  takeO P k n=[refN P k n]∧(refN P k n).st=sT (takeS P k n).d∧(takeS P k n).ss=k.ss∧(refN P k n).k=10:=by
 have hs:=sT_open I ho
 have hme:met k n=true:=by
  unfold met meets
  rcases hm with ⟨h1,h2⟩ | ⟨h1,h2⟩ <;> simp [h1,h2]
 have hr:rfs k n=true:=by unfold rfs ref;simp [hs,hme]
 have h4:n.k=4 ∨ n.k=5:=by rcases hm with h | h <;> simp [h.1]
 have e6:¬ n.k=6:=by omega
 have e7:¬ n.k=7:=by omega
 have e8:¬ n.k=8:=by omega
 have e78:¬ (n.k=7 ∨ n.k=8):=by omega
 refine ⟨by unfold takeO;rw [if_neg (by simpa using hE),if_neg e6,if_neg e78,if_pos hr],?_,?_,rfl⟩
 ·unfold takeS
  rw [if_neg (by simpa using hE),if_neg e6,if_neg e7,if_neg e8,if_pos hr]
  rfl
 ·unfold takeS
  rw [if_neg (by simpa using hE),if_neg e6,if_neg e7,if_neg e8,if_pos hr]
theorem ack_form (x:Nt) (hx:x=ackN P k n):x.k=9∧x.f=P.core∧x.t=-1∧x.b=n.b∧x.q=false:=by
 subst hx
 unfold ackN
 split
 ·exact ⟨rfl,rfl,rfl,rfl,rfl⟩
 ·split
  ·split
   ·exact ⟨rfl,rfl,rfl,rfl,rfl⟩
   ·exact ⟨rfl,rfl,rfl,rfl,rfl⟩
  ·exact ⟨rfl,rfl,rfl,rfl,rfl⟩
theorem askO_mem {b:Int} {wr:Bool} {x:Nt} (hx:x ∈ askO P k b wr):goesOut P k b wr=true∧(x=askN P k b wr ∨ (back P k b=true∧x=putN P k (gone P k b).1)):=by
 unfold askO at hx
 split at hx
 ·rename_i hg
  refine ⟨hg,?_⟩
  split at hx
  ·rename_i hb
   simp only [List.mem_cons,List.not_mem_nil,or_false] at hx
   rcases hx with h | h
   ·exact .inr ⟨hb,h⟩
   ·exact .inl h
  ·simp only [List.mem_cons,List.not_mem_nil,or_false] at hx
   exact .inl hx
 ·simp at hx
theorem takeO_mem {x:Nt} (hx:x ∈ takeO P k n):takeE P k n=0∧((n.k=6∧x=doneN P n) ∨ (n.k ≠ 6∧n.k ≠ 7∧n.k ≠ 8∧rfs k n=true∧x=refN P k n) ∨ (n.k ≠ 6∧n.k ≠ 7∧n.k ≠ 8∧rfs k n=false∧x=ackN P k n)):=by
 unfold takeO at hx
 by_cases hE:takeE P k n=0
 ·refine ⟨hE,?_⟩
  rw [if_neg (by simpa using hE)] at hx
  by_cases h6:n.k=6
  ·rw [if_pos h6] at hx
   simp only [List.mem_cons,List.not_mem_nil,or_false] at hx
   exact .inl ⟨h6,hx⟩
  ·rw [if_neg h6] at hx
   by_cases h78:n.k=7 ∨ n.k=8
   ·rw [if_pos h78] at hx;simp at hx
   ·rw [if_neg h78] at hx
    cases hr:rfs k n
    ·rw [if_neg (by simp [hr])] at hx
     simp only [List.mem_cons,List.not_mem_nil,or_false] at hx
     exact .inr (.inr ⟨h6,fun h=>h78 (.inl h),fun h=>h78 (.inr h),rfl,hx⟩)
    ·rw [if_pos hr] at hx
     simp only [List.mem_cons,List.not_mem_nil,or_false] at hx
     exact .inr (.inl ⟨h6,fun h=>h78 (.inl h),fun h=>h78 (.inr h),rfl,hx⟩)
 ·rw [if_pos hE] at hx;simp at hx
structure Tel (P:Pm) (k:Nr) (f:Int→List Int):Prop where
 ln:∀ b l,line P k b=some l→f b=l.d
 bk:∀ x ∈ k.bs,f x.b=x.d
theorem Tel.newS (P:Pm) (f:Int→List Int):Tel P (newS P) f:=by
 refine ⟨fun b l hl=>?_,fun x hx=>by simp [nr.newS] at hx⟩
 unfold line at hl
 rw [show (nr.newS P).ss=kk.empty P.c from rfl,kk.fF_empty] at hl
 cases hl
variable {f:Int→List Int}
theorem Tel.askS (T:Tel P k f) (h:Pok P) (I:Inv P k) (b:Int) (wr:Bool):Tel P (askS P k b wr) f:=by
 unfold nr.askS
 split
 ·cases hgo:(gone P k b).2
  ·have hbk:back P k b=false:=by
    cases hx:back P k b
    ·rfl
    ·have:=(back_iff.1 hx).1;rw [hgo] at this;cases this
   simp only [Bool.false_eq_true,if_false,hbk]
   exact ⟨T.ln,T.bk⟩
  ·obtain ⟨g1,g2,g3,g4,g5⟩:=gone_line I hgo
   have hfd:fF P.c (cdrop P.c k.ss (gone P k b).1.b).1=del (fF P.c k.ss) (gone P k b).1.b:=kk.fF_drop I.ch I.hs _
   simp only [if_true]
   refine ⟨fun y l hl=>?_,fun x hx=>?_⟩
   ·rw [line_of,hfd] at hl
    unfold del at hl
    split at hl
    ·cases hl
    ·exact T.ln y l hl
   ·have hx':x ∈ (if back P k b=true then puts P.N P.m k.bs (gone P k b).1.b (gone P k b).1.d (gone P k b).1.h else k.bs):=hx
    split at hx'
    ·unfold puts at hx'
     split at hx'
     ·rcases List.mem_append.1 hx' with hx' | hx'
      ·exact T.bk x hx'
      ·simp only [List.mem_cons,List.not_mem_nil,or_false] at hx'
       subst hx'
       exact T.ln _ _ g1
     ·exact T.bk x hx'
    ·exact T.bk x hx'
 ·exact T
theorem Tel.askO (T:Tel P k f) (I:Inv P k) {b:Int} {wr:Bool} {x:Nt} (hx:x ∈ askO P k b wr) (hh:x.h=true):x.d=f x.b:=by
 rcases (askO_mem hx).2 with rfl | ⟨hb,rfl⟩
 ·cases hh
 ·obtain ⟨g1,_⟩:=gone_line I (back_iff.1 hb).1
  exact (T.ln _ _ g1).symm
theorem Tel.loadS (T:Tel P k f) (I:Inv P k) (b i:Int):Tel P (loadS P k b i) f:=by
 unfold nr.loadS
 split
 ·refine ⟨fun y l hl=>?_,T.bk⟩
  rw [line_of,kk.fF_use I.hs] at hl
  exact T.ln y l hl
 ·exact T
theorem Tel.loadV (T:Tel P k f) (b i:Int) (hE:loadE P k b i=0):loadV P k b i=(f b).getD i.toNat 0∧0 ≤ i∧i ≤ 15:=by
 have h0:=hE
 unfold loadE at hE
 split at hE
 ·cases hE
 ·rename_i h1
  split at hE
  ·cases hE
  ·rename_i h2
   have h3:(cfind P.c k.ss b).2=true:=by simpa using h1
   rw [cf2] at h3
   obtain ⟨l,hl⟩:=Option.isSome_iff_exists.1 h3
   refine ⟨?_,by omega,by omega⟩
   unfold nr.loadV
   rw [if_pos h0,cf1,hl,T.ln b l hl];rfl
theorem storeE_zero {b i x:Int} (hE:storeE P k b i x=0):∃ l,line P k b=some l∧0 ≤ i∧i < 16∧l.s ≠ 1:=by
 unfold storeE cwrite at hE
 have hb0:=kk.fF_row P.c k.ss b
 unfold kk.inRow at hb0
 rw [kk.find_idx] at hb0
 cases hn:(setAt P.c k.ss b).1.findIdx? (kk.isOf b) with
 | none=>rw [hn] at hE;cases hE
 | some j=>
  rw [hn] at hE hb0
  simp only [Option.map_some] at hE hb0
  refine ⟨_,hb0,?_⟩
  by_cases hi:0 ≤ i∧i < 16
  ·rw [if_pos hi] at hE
   by_cases hs:((setAt P.c k.ss b).1.getD j zl).s=1
   ·rw [if_pos hs] at hE;cases hE
   ·exact ⟨hi.1,hi.2,hs⟩
  ·rw [if_neg hi] at hE;cases hE
theorem Tel.storeS (T:Tel P k f) (I:Inv P k) (b i x:Int) (hE:storeE P k b i x=0):Tel P (storeS P k b i x) (fun y=>if y=b then (f b).set i.toNat x else f y):=by
 obtain ⟨l,hl,h0,h1,hs⟩:=storeE_zero hE
 obtain ⟨_,hf⟩:=kk.fF_write I.hs b i x hE
 unfold nr.storeS
 rw [if_pos hE]
 refine ⟨fun y l' hl'=>?_,fun z hz=>?_⟩
 ·rw [line_of,hf] at hl'
  unfold upd at hl'
  by_cases hy:y=b
  ·rw [if_pos hy] at hl'
   rw [show fF P.c k.ss b=some l from hl] at hl'
   simp only [Option.getD_some,Option.some.injEq] at hl'
   subst hl'
   show (if y=b then (f b).set i.toNat x else f y)=l.d.set i.toNat x
   rw [if_pos hy,T.ln b l hl]
  ·rw [if_neg hy] at hl'
   show (if y=b then (f b).set i.toNat x else f y)=l'.d
   rw [if_neg hy];exact T.ln y l' hl'
 ·have hz':z ∈ k.bs:=hz
  have hne:z.b ≠ b:=fun e=>by
   have h1:=bk.look_some_of_mem I.nd hz'
   rw [e,I.ap b (by rw [hl];rfl)] at h1
   cases h1
  show (if z.b=b then (f b).set i.toNat x else f z.b)=z.d
  rw [if_neg hne];exact T.bk z hz'
def telF (P:Pm) (k:Nr) (f:Int→List Int) (n:Nt):Int→List Int:=if takeE P k n=0∧n.k=6 then (fun y=>if y=n.b then n.d else f y) else f
theorem Tel.takeS (T:Tel P k f) (h:Pok P) (I:Inv P k):Tel P (takeS P k n) (telF P k f n):=by
 unfold nr.takeS telF
 by_cases hE:takeE P k n=0
 ·rw [if_neg (by simpa using hE)]
  by_cases h6:n.k=6
  ·rw [if_pos h6,if_pos ⟨hE,h6⟩]
   obtain ⟨hw,hab⟩:=aw_iff.1 (takeE_data h6 hE).1
   refine ⟨fun y l hl=>?_,fun z hz=>?_⟩
   ·rw [line_of,put_line h I h6 hE] at hl
    unfold upd at hl
    by_cases hy:y=n.b
    ·rw [if_pos hy] at hl
     cases hl
     show (if y=n.b then n.d else f y)=n.d
     rw [if_pos hy]
    ·rw [if_neg hy] at hl
     show (if y=n.b then n.d else f y)=l.d
     rw [if_neg hy];exact T.ln y l hl
   ·have hz':z ∈ k.bs:=hz
    have hne:z.b ≠ n.b:=fun e=>by
     have h1:=bk.look_some_of_mem I.nd hz'
     rw [e,← hab,(I.rm hw).2] at h1
     cases h1
    show (if z.b=n.b then n.d else f z.b)=z.d
    rw [if_neg hne];exact T.bk z hz'
  ·rw [if_neg h6,if_neg (c:=takeE P k n=0∧n.k=6) (fun hx=>h6 hx.2)]
   by_cases h7:n.k=7
   ·rw [if_pos h7];exact ⟨T.ln,T.bk⟩
   ·rw [if_neg h7]
    by_cases h8:n.k=8
    ·rw [if_pos h8]
     exact ⟨T.ln,fun z hz=>T.bk z (bk.mem_rem hz)⟩
    ·rw [if_neg h8]
     split
     ·exact ⟨T.ln,T.bk⟩
     ·refine ⟨fun y l hl=>?_,fun z hz=>?_⟩
      ·rw [line_of] at hl
       split at hl
       ·rw [show fF P.c (cdrop P.c k.ss n.b).1=del (fF P.c k.ss) n.b from kk.fF_drop I.ch I.hs _] at hl
        unfold del at hl
        split at hl
        ·cases hl
        ·exact T.ln y l hl
       ·by_cases hc:(cturn P.c k.ss n.b 1).2=0
        ·obtain ⟨_,h2,h3⟩:=kk.fF_turn I.hs n.b 1 hc
         rw [h3] at hl
         unfold upd at hl
         split at hl
         ·rename_i e
          obtain ⟨l0,hl0⟩:=Option.isSome_iff_exists.1 h2
          rw [hl0] at hl
          simp only [Option.getD_some,Option.some.injEq] at hl
          subst hl
          rw [e]
          show f n.b=l0.d
          exact T.ln _ _ hl0
         ·exact T.ln y l hl
        ·rw [kk.cturn_no n.b 1 hc] at hl
         exact T.ln y l hl
      ·have hz':z ∈ (if has P k n.b=false∧fl (bk.look k.bs n.b)=true then kills k.bs n.b else k.bs):=hz
       split at hz'
       ·have h1:=bk.look_some_of_mem (bk.nd_kills _ I.nd) hz'
        rw [bk.look_kills _ _ I.nd] at h1
        split at h1
        ·rename_i e
         cases hx:bk.look k.bs n.b with
         | none=>rw [hx] at h1;cases h1
         | some x0=>
          rw [hx] at h1
          simp only [Option.map_some,Option.some.injEq] at h1
          subst h1
          exact T.bk x0 (bk.look_mem hx)
        ·exact T.bk z (bk.look_mem h1)
       ·exact T.bk z hz'
 ·rw [if_pos hE,if_neg (fun hx=>hE hx.1)];exact T
theorem Tel.takeO (T:Tel P k f) (I:Inv P k) {x:Nt} (hx:x ∈ takeO P k n) (hh:x.h=true):x.d=telF P k f n x.b:=by
 obtain ⟨hE,hc⟩:=takeO_mem hx
 rcases hc with ⟨_,rfl⟩ | ⟨_,_,_,_,rfl⟩ | ⟨h6,h7,h8,hr,hx'⟩
 ·cases hh
 ·cases hh
 ·obtain ⟨_,_,_,hb,_⟩:=ack_form x hx'
  unfold telF
  rw [if_neg (fun hy=>h6 hy.2),hb]
  subst hx'
  unfold ackN at hh ⊢
  cases hhas:has P k n.b
  ·rw [hhas] at hh
   rw [if_neg (by simp)] at hh ⊢
   cases hl:bk.look k.bs n.b with
   | none=>rw [hl] at hh;cases hh
   | some x0=>
    rw [hl] at hh
    simp only [] at hh ⊢
    cases hlv:x0.l
    ·rw [hlv] at hh
     rw [if_neg (by simp)] at hh
     cases hh
    ·rw [if_pos rfl]
     have h1:=T.bk x0 (bk.look_mem hl)
     rw [bk.look_b hl] at h1
     exact h1.symm
  ·rw [if_pos rfl]
   unfold has at hhas
   have h1:(cfind P.c k.ss n.b).2=true:=by simp at hhas;exact hhas.1
   have h2:=h1
   rw [cf2] at h2
   obtain ⟨l,hl⟩:=Option.isSome_iff_exists.1 h2
   show (cfind P.c k.ss n.b).1.d=f n.b
   rw [cf1,hl,T.ln n.b l hl];rfl
end
end Go.Proofs.YtcoimipgilkmbaaGreatDoor.nr
