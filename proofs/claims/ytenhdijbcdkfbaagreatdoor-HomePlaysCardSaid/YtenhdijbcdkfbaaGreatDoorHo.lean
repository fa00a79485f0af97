/-
 Which notes fit a plan, as plain data. No condition.
 A home as plain data: what each note makes go out, and the home behind it; what holds of a home all the while. No condition.
 What goes out of a home, as plain facts: all of it is about the note's block and from the home; a refused ask changes no entry; who gets a block alone, or as its own, owns it; what the memory becomes. No condition.
 Those that wait begin one after the other: the row of those that wait, gone over from its start each time, makes the same of a home as gone over once. No condition.
-/
import Derived.Test.YtenhdijbcdkfbaaGreatDoorTl
import Derived.Test.YtenhdijbcdkfbaaGreatDoorNa
import Derived.Test.YtenhdijbcdkfbaaGreatDoorEo
namespace Go.Proofs.YtenhdijbcdkfbaaGreatDoor.tt
set_option linter.unusedVariables false
set_option linter.unusedSimpArgs false
set_option maxRecDepth 1000000
set_option maxHeartbeats 16000000
open Go
def fits (c:Cfg) (n:Nt):Prop:=n.ok∧(n.f < c.co∧n.t < c.co)∧n.b < c.data
instance (c:Cfg) (n:Nt):Decidable (fits c n):=by unfold fits;infer_instance
theorem ok_ends {n:Nt} (h:n.ok):(-1 ≤ n.f∧n.f ≤ 15)∧(-1 ≤ n.t∧n.t ≤ 15):=by
 have hr:=(rule_ok n h.1 h.2.1).1 h
 have h1:=hr.at_
 have h2:=hr.core
 cases hT:tH n.k <;> rw [hT] at h1 h2 <;> simp at h1 h2 <;> omega
end Go.Proofs.YtenhdijbcdkfbaaGreatDoor.tt
namespace Go.Proofs.YtenhdijbcdkfbaaGreatDoor.hh
set_option linter.unusedVariables false
set_option linter.unusedSimpArgs false
set_option maxRecDepth 1000000
set_option maxHeartbeats 16000000
open Go
open Go.Proofs.YtenhdijbcdkfbaaGreatDoor.tt (Nt Cfg fits net bare zd usd uses coreOf ok_ends)
open Go.Proofs.YtenhdijbcdkfbaaGreatDoor.en (En gets back asked asks free ask_parts may_parts)
open Go.Proofs.YtenhdijbcdkfbaaGreatDoor.mm (wi wo ones wo_lt)
structure Jb where
 a:Nt
 w:Nat
 d:Bool
 r:Bool
 l:Int
structure Hm where
 en:List En
 jb:List (Option Jb)
 wt:List Nt
 mm:List (List Int)
def enOf (H:Hm) (b:Nat):En:=H.en.getD b free
def jbOf (H:Hm) (b:Nat):Option Jb:=H.jb.getD b none
def rowOf (H:Hm) (b:Nat):List Int:=H.mm.getD b zd
def dataN (x b s:Int) (row:List Int):Nt:=if h:row.length=16 then ⟨6,-1,x,b,0,s,true,false,row,h⟩ else bare 6 (-1) x b 0 s true false
def answer (H:Hm) (b:Nat):Hm × List Nt:=
 match jbOf H b with
 | none=>(H,[])
 | some j=>({ H with en:=H.en.set b (gets (enOf H b) j.a.k j.a.f).1,jb:=H.jb.set b (some { j with d:=true }) },[dataN j.a.f b (gets (enOf H b) j.a.k j.a.f).2.1 (rowOf H b)])
def begin1 (H:Hm) (n:Nt):Hm × List Nt:=
 if n.k=3 then
  ({ H with en:=H.en.set n.b.toNat (back (enOf H n.b.toNat) n.f n.q).1,mm:=if (back (enOf H n.b.toNat) n.f n.q).2.1 then H.mm.set n.b.toNat n.d else H.mm },[bare 8 (-1) n.f n.b 0 0 false false])
 else if (asked (enOf H n.b.toNat) n.k n.f).1=0 then answer { H with jb:=H.jb.set n.b.toNat (some ⟨n,0,false,false,0⟩) } n.b.toNat
 else ({ H with jb:=H.jb.set n.b.toNat (some ⟨n,(asked (enOf H n.b.toNat) n.k n.f).1,false,false,0⟩) },
  (ones (asked (enOf H n.b.toNat) n.k n.f).1).map fun (x:Nat)=>bare (asked (enOf H n.b.toNat) n.k n.f).2.1 (-1) (x:Int) n.b n.st 0 false false)
def run (b:Nat):Hm→List Nt→List Nt→Hm × List Nt
 | H,pre,[]=>({ H with wt:=pre },[])
 | H,pre,n :: rest=>
  if (jbOf H b).isSome then ({ H with wt:=pre ++ n :: rest },[])
  else if n.b=(b:Int) then
   let r:=begin1 H n
   let q:=run b r.1 pre rest
   (q.1,r.2 ++ q.2)
  else run b H (pre ++ [n]) rest
def fin (H:Hm) (b:Nat):Hm × List Nt:=run b { H with jb:=H.jb.set b none } [] H.wt
def roomH (c:Cfg):Int:=c.co * (c.ba + 1)
def ready (c:Cfg) (H:Hm) (n:Nt):Int:=
 if ¬ fits c n ∨ n.t ≠ -1 then 2
 else if net n.k=0 then (if (jbOf H n.b.toNat).isSome∧roomH c ≤ (H.wt.length:Int) then 110 else 0)
 else match jbOf H n.b.toNat with
  | none=>8
  | some j=>if n.k=11 then (if j.d=true∧j.a.f=n.f then 0 else 8) else (if j.d=false∧j.w.testBit n.f.toNat=true then 0 else 8)
def noted (j:Jb) (n:Nt):Jb:=
 { j with w:=wo j.w n.f,r:=j.r || decide (n.k=10),l:=if n.k=10∧(j.r=false ∨ n.st < j.l) then n.st else j.l }
def take (c:Cfg) (H:Hm) (n:Nt):Hm × List Nt × Int:=
 if ready c H n ≠ 0 then (H,[],ready c H n)
 else if net n.k=0 then
  (if (jbOf H n.b.toNat).isSome then ({ H with wt:=H.wt ++ [n] },[],0) else ((begin1 H n).1,(begin1 H n).2,0))
 else if n.k=11 then ((fin H n.b.toNat).1,(fin H n.b.toNat).2,0)
 else match jbOf H n.b.toNat with
  | none=>(H,[],0)
  | some j=>
   let H1:Hm:={ H with mm:=if n.h then H.mm.set n.b.toNat n.d else H.mm,jb:=H.jb.set n.b.toNat (some (noted j n)) }
   if (noted j n).w ≠ 0 then (H1,[],0)
   else if (noted j n).r then ((fin H1 n.b.toNat).1,bare 7 (-1) j.a.f n.b (noted j n).l 0 false false :: (fin H1 n.b.toNat).2,0)
   else ((answer H1 n.b.toNat).1,(answer H1 n.b.toNat).2,0)
def new (c:Cfg) (mm:List (List Int)):Hm:=⟨List.replicate c.data.toNat free,List.replicate c.data.toNat none,[],mm⟩
structure Asks (c:Cfg) (n:Nt):Prop where
 fits:fits c n
 to:n.t=-1
 net:net n.k=0
structure JobOk (c:Cfg) (b:Nat) (j:Jb):Prop where
 asks:Asks c j.a
 kind:j.a.k=1 ∨ j.a.k=2
 blk:j.a.b=(b:Int)
 w:j.w < 4294967296
 l:0 ≤ j.l∧j.l < 18446744073709551616
structure Inv (c:Cfg) (H:Hm):Prop where
 may:c.may
 le:H.en.length=c.data.toNat
 lj:H.jb.length=c.data.toNat
 lm:H.mm.length=c.bl.toNat
 rows:∀ r ∈ H.mm,r.length=16
 ents:∀ e ∈ H.en,e.may=true
 jobs:∀ b j,H.jb[b]?=some (some j)→JobOk c b j
 wait:∀ n ∈ H.wt,Asks c n
theorem may_free:free.may=true:=by decide
theorem ents_of {c:Cfg} {H:Hm} (h:Inv c H) (b:Nat):(enOf H b).may=true:=by
 unfold enOf
 rw [List.getD_eq_getElem?_getD]
 cases hb:H.en[b]? with
 | none=>exact may_free
 | some e=>exact h.ents e (List.mem_of_getElem? hb)
theorem jbOf_get {H:Hm} {b:Nat} {j:Jb} (h:jbOf H b=some j):H.jb[b]?=some (some j):=by
 unfold jbOf at h
 rw [List.getD_eq_getElem?_getD] at h
 cases hb:H.jb[b]? with
 | none=>rw [hb] at h;cases h
 | some o=>rw [hb] at h;simp at h;rw [h]
theorem get_jbOf {H:Hm} {b:Nat} {o:Option Jb} (h:H.jb[b]?=some o):jbOf H b=o:=by
 unfold jbOf;rw [List.getD_eq_getElem?_getD,h];rfl
theorem mem_set {α:Type} {l:List α} {k:Nat} {x y:α} (h:y ∈ l.set k x):y ∈ l ∨ y=x:=List.mem_or_eq_of_mem_set h
theorem jobs_set {c:Cfg} {H:Hm} {b:Nat} {o:Option Jb} (h:Inv c H) (ho:∀ j,o=some j→JobOk c b j):∀ k j,(H.jb.set b o)[k]?=some (some j)→JobOk c k j:=fun k j hk=>by
 rw [List.getElem?_set] at hk
 split at hk
 ·rename_i e
  subst e
  split at hk
  ·exact ho j (by simpa using hk)
  ·cases hk
 ·exact h.jobs k j hk
theorem asks_kind {c:Cfg} {n:Nt} (h:Asks c n):n.k=1 ∨ n.k=2 ∨ n.k=3:=by
 have h1:=h.net
 have h2:=h.fits.1.1
 unfold tt.net at h1
 rw [if_pos h2] at h1
 split at h1
 ·omega
 ·split at h1 <;> simp at h1
theorem asks_core {c:Cfg} {n:Nt} (h:Asks c n):0 ≤ n.f∧n.f ≤ 15:=by
 have hk:=asks_kind h
 have hc:=h.fits.1.2.2.2.1
 unfold coreOf uses at hc
 rcases hk with e | e | e <;> rw [e] at hc <;> simp at hc <;> omega
theorem asks_ask {c:Cfg} {n:Nt} {e:En} (h:Asks c n) (hk:n.k=1 ∨ n.k=2) (he:e.may=true):en.ask e n.k n.f=true:=by
 have hc:=asks_core h
 unfold en.ask
 rw [he,decide_eq_true hc,decide_eq_true hk];rfl
theorem blk_lt {c:Cfg} {n:Nt} (h:fits c n):0 ≤ n.b∧n.b.toNat < c.data.toNat:=by
 have h1:=h.1.2.1
 have h2:=h.2.2
 omega
theorem gets_may {e:En} {k x:Int} (h:en.ask e k x=true):(gets e k x).1.may=true:=by
 obtain ⟨o,s⟩:=e
 rcases en.gets_three o s k x h with ⟨t,h1,_⟩ | ⟨m,h1,hm,_⟩
 ·rw [h1];obtain ⟨_,hx,_⟩:=ask_parts h;exact en.may_yes (by omega)
 ·rw [h1];exact en.may_yes (by omega)
theorem back_may {e:En} {x:Int} {st:Bool} (h:e.may=true):(back e x st).1.may=true:=by
 unfold back
 split
 ·split
  ·cases st
   ·exact may_free
   ·exact h
  ·exact h
 ·decide
theorem asked_lt {e:En} {k x:Int} (h:e.may=true):(asked e k x).1 < 4294967296:=by
 have:=(may_parts h).2.2.1
 unfold asked
 split
 ·exact en.asks_lt e.o e.s k x (by omega)
 ·decide
section
variable {c:Cfg} {H:Hm}
theorem Inv.answer (h:Inv c H) (b:Nat):Inv c (answer H b).1:=by
 unfold hh.answer
 cases hj:jbOf H b with
 | none=>exact h
 | some j=>
  have hjo:=h.jobs b j (jbOf_get hj)
  refine ⟨h.may,by rw [List.length_set];exact h.le,by rw [List.length_set];exact h.lj,h.lm,h.rows,fun e he=>?_,jobs_set h (fun j' hj'=>?_),h.wait⟩
  ·rcases mem_set he with he | rfl
   ·exact h.ents e he
   ·exact gets_may (asks_ask hjo.asks hjo.kind (ents_of h b))
  ·cases hj';exact ⟨hjo.asks,hjo.kind,hjo.blk,hjo.w,hjo.l⟩
theorem Inv.job (h:Inv c H) (b:Nat) (o:Option Jb) (ho:∀ j,o=some j→JobOk c b j):Inv c { H with jb:=H.jb.set b o }:=
 ⟨h.may,h.le,by rw [List.length_set];exact h.lj,h.lm,h.rows,h.ents,jobs_set h ho,h.wait⟩
theorem Inv.waits (h:Inv c H) (ws:List Nt) (hw:∀ n ∈ ws,Asks c n):Inv c { H with wt:=ws }:=⟨h.may,h.le,h.lj,h.lm,h.rows,h.ents,h.jobs,hw⟩
theorem Inv.mem (h:Inv c H) (p:Bool) (b:Nat) (r:List Int) (hr:r.length=16):Inv c { H with mm:=if p then H.mm.set b r else H.mm }:=by
 cases p
 ·exact h
 ·refine ⟨h.may,h.le,h.lj,by show (H.mm.set b r).length=_;rw [List.length_set];exact h.lm,fun x hx=>?_,h.ents,h.jobs,h.wait⟩
  rcases mem_set (show x ∈ H.mm.set b r from hx) with hx | rfl
  ·exact h.rows x hx
  ·exact hr
theorem Inv.begin1 (h:Inv c H) (n:Nt) (hn:Asks c n):Inv c (begin1 H n).1:=by
 have hb:=blk_lt hn.fits
 unfold hh.begin1
 split
 ·have h1:Inv c { H with mm:=if (back (enOf H n.b.toNat) n.f n.q).2.1 then H.mm.set n.b.toNat n.d else H.mm }:=h.mem _ _ _ n.hd
  refine ⟨h1.may,by rw [List.length_set];exact h.le,h1.lj,h1.lm,h1.rows,fun e he=>?_,h1.jobs,h1.wait⟩
  rcases mem_set he with he | rfl
  ·exact h.ents e he
  ·exact back_may (ents_of h _)
 ·rename_i hk3
  have hk:n.k=1 ∨ n.k=2:=by rcases asks_kind hn with e | e | e <;> omega
  have ok:∀ w,w < 4294967296→JobOk c n.b.toNat ⟨n,w,false,false,0⟩:=fun w hw=>⟨hn,hk,by show n.b=_;omega,hw,⟨Int.le_refl _,by show (0:Int) < 18446744073709551616;decide⟩⟩
  split
  ·exact (h.job _ _ fun j hj=>by cases hj;exact ok 0 (by decide)).answer _
  ·exact h.job _ _ fun j hj=>by cases hj;exact ok _ (asked_lt (ents_of h _))
theorem begin1_wt (H:Hm) (n:Nt):(hh.begin1 H n).1.wt=H.wt:=by
 unfold hh.begin1
 split
 ·rfl
 ·split
  ·unfold hh.answer;split <;> rfl
  ·rfl
theorem Inv.run (b:Nat):∀ (rest:List Nt) (H:Hm) (pre:List Nt),Inv c H→(∀ n ∈ pre,Asks c n)→(∀ n ∈ rest,Asks c n)→Inv c (run b H pre rest).1
 | [],H,pre,h,hp,_=>h.waits pre hp
 | n :: rest,H,pre,h,hp,hr=>by
  have hn:=hr n (by simp)
  have hr':∀ m ∈ rest,Asks c m:=fun m hm=>hr m (by simp [hm])
  unfold hh.run
  split
  ·exact h.waits _ fun m hm=>by
    rcases List.mem_append.1 hm with hm | hm
    ·exact hp m hm
    ·exact hr m hm
  ·split
   ·exact Inv.run b rest _ pre (h.begin1 n hn) hp hr'
   ·exact Inv.run b rest H (pre ++ [n]) h (fun m hm=>by
     rcases List.mem_append.1 hm with hm | hm
     ·exact hp m hm
     ·rw [List.mem_singleton.1 hm];exact hn) hr'
theorem Inv.fin (h:Inv c H) (b:Nat):Inv c (fin H b).1:=
 Inv.run b H.wt _ [] (h.job b none fun j hj=>by cases hj) (fun n hn=>by cases hn) h.wait
theorem Inv.noted (h:Inv c H) (n:Nt) (hn:fits c n) (j:Jb) (hj:jbOf H n.b.toNat=some j) (hst:0 ≤ n.st∧n.st < 18446744073709551616):Inv c { H with mm:=if n.h then H.mm.set n.b.toNat n.d else H.mm,jb:=H.jb.set n.b.toNat (some (noted j n)) }:=by
 have hjo:=h.jobs _ j (jbOf_get hj)
 have h1:Inv c { H with mm:=if n.h then H.mm.set n.b.toNat n.d else H.mm }:=h.mem _ _ _ n.hd
 refine h1.job n.b.toNat (some (hh.noted j n)) fun j' hj'=>?_
 cases hj'
 refine ⟨hjo.asks,hjo.kind,hjo.blk,wo_lt _ _ hjo.w,?_⟩
 unfold hh.noted
 dsimp only
 split
 ·exact hst
 ·exact hjo.l
def Word (n:Nt):Prop:=0 ≤ n.st∧n.st < 18446744073709551616
theorem ready_fits {c:Cfg} {H:Hm} {n:Nt} (h:ready c H n=0):fits c n∧n.t=-1:=by
 unfold ready at h
 by_cases hf:¬ fits c n ∨ n.t ≠ -1
 ·rw [if_pos hf] at h;cases h
 ·exact ⟨Classical.not_not.1 fun e=>hf (.inl e),Classical.not_not.1 fun e=>hf (.inr e)⟩
theorem Inv.take (h:Inv c H) (n:Nt) (hw:Word n):Inv c (take c H n).1:=by
 unfold hh.take
 by_cases hr:ready c H n ≠ 0
 ·rw [if_pos hr];exact h
 ·rw [if_neg hr]
  have hr0:ready c H n=0:=Classical.not_not.1 hr
  obtain ⟨hf,ht⟩:=ready_fits hr0
  by_cases hn:tt.net n.k=0
  ·rw [if_pos hn]
   have ha:Asks c n:=⟨hf,ht,hn⟩
   by_cases hj:(jbOf H n.b.toNat).isSome=true
   ·rw [if_pos hj]
    exact h.waits _ fun m hm=>by
     rcases List.mem_append.1 hm with hm | hm
     ·exact h.wait m hm
     ·rw [List.mem_singleton.1 hm];exact ha
   ·rw [if_neg hj];exact h.begin1 n ha
  ·rw [if_neg hn]
   by_cases hk:n.k=11
   ·rw [if_pos hk];exact h.fin _
   ·rw [if_neg hk]
    cases hj:jbOf H n.b.toNat with
    | none=>exact h
    | some j=>
     have h1:=h.noted n hf j hj hw
     dsimp only
     split
     ·exact h1
     ·split
      ·exact h1.fin _
      ·exact h1.answer _
end
theorem new_inv (c:Cfg) (mm:List (List Int)) (hc:c.may) (hl:mm.length=c.bl.toNat) (hr:∀ r ∈ mm,r.length=16):Inv c (new c mm):=
 ⟨hc,List.length_replicate,List.length_replicate,hl,hr,fun e he=>by rw [(List.mem_replicate.1 he).2];exact may_free,fun b j hb=>(by
  have:=List.mem_replicate.1 (List.mem_of_getElem? hb)
  cases this.2),fun n hn=>(by cases hn)⟩
end Go.Proofs.YtenhdijbcdkfbaaGreatDoor.hh
namespace Go.Proofs.YtenhdijbcdkfbaaGreatDoor.hh
set_option linter.unusedVariables false
set_option linter.unusedSimpArgs false
set_option maxRecDepth 1000000
set_option maxHeartbeats 16000000
open Go
open Go.Proofs.YtenhdijbcdkfbaaGreatDoor.tt (Nt Cfg fits net bare zd usd uses coreOf ok_ends)
open Go.Proofs.YtenhdijbcdkfbaaGreatDoor.en (En gets back asked asks free ask_parts may_parts)
open Go.Proofs.YtenhdijbcdkfbaaGreatDoor.mm (wi wo ones wo_lt)
theorem run_busy (b:Nat) (H:Hm) (pre rest:List Nt) (h:(jbOf H b).isSome=true):run b H pre rest=({ H with wt:=pre ++ rest },[]):=by
 cases rest with
 | nil=>unfold run;simp
 | cons n rest=>unfold run;rw [if_pos h]
end Go.Proofs.YtenhdijbcdkfbaaGreatDoor.hh
namespace Go.Proofs.YtenhdijbcdkfbaaGreatDoor.hh
set_option linter.unusedVariables false
set_option linter.unusedSimpArgs false
set_option maxRecDepth 1000000
set_option maxHeartbeats 16000000
open Go
open Go.Proofs.YtenhdijbcdkfbaaGreatDoor.tt (Nt Cfg fits net bare zd usd uses coreOf ok_ends)
open Go.Proofs.YtenhdijbcdkfbaaGreatDoor.en (En gets back asked asks free ask_parts may_parts)
open Go.Proofs.YtenhdijbcdkfbaaGreatDoor.mm (wi wo ones wo_lt)
theorem begin1_with (H:Hm) (n:Nt) (x:List Nt):begin1 { H with wt:=x } n=({ (begin1 H n).1 with wt:=x },(begin1 H n).2):=by
 unfold begin1
 by_cases h3:n.k=3
 ·rw [if_pos h3,if_pos h3];rfl
 ·rw [if_neg h3,if_neg h3]
  by_cases ha:(asked (enOf H n.b.toNat) n.k n.f).1=0
  ·have ha':(asked (enOf { H with wt:=x } n.b.toNat) n.k n.f).1=0:=ha
   rw [if_pos ha,if_pos ha']
   unfold answer jbOf
   cases h:(H.jb.set n.b.toNat (some ⟨n,0,false,false,0⟩)).getD n.b.toNat none with
   | none=>simp only
   | some j=>simp only;rfl
  ·have ha':(asked (enOf { H with wt:=x } n.b.toNat) n.k n.f).1 ≠ 0:=ha
   rw [if_neg ha,if_neg ha'];rfl
theorem run_with (b:Nat) (x:List Nt):∀ (rest:List Nt) (H:Hm) (pre:List Nt),run b { H with wt:=x } pre rest=run b H pre rest
 | [],H,pre=>rfl
 | n :: rest,H,pre=>by
  unfold run
  have hj:jbOf { H with wt:=x } b=jbOf H b:=rfl
  rw [hj]
  by_cases h:(jbOf H b).isSome=true
  ·rw [if_pos h,if_pos h]
  ·rw [if_neg h,if_neg h]
   by_cases hb:n.b=(b:Int)
   ·rw [if_pos hb,if_pos hb,begin1_with]
    dsimp only
    rw [run_with b x rest]
   ·rw [if_neg hb,if_neg hb,run_with b x rest]
theorem run_skip (b:Nat) (H:Hm) (hn:jbOf H b=none):∀ (l1 rest pre:List Nt),(∀ m ∈ l1,m.b ≠ (b:Int))→run b H pre (l1 ++ rest)=run b H (pre ++ l1) rest
 | [],rest,pre,h=>by simp
 | m :: l1,rest,pre,h=>by
  rw [List.cons_append,run,hn]
  rw [if_neg (by simp),if_neg (h m (by simp)),run_skip b H hn l1 rest (pre ++ [m]) (fun x hx=>h x (by simp [hx]))]
  simp
theorem run_end (b:Nat) (H:Hm) (h:(∀ m ∈ H.wt,m.b ≠ (b:Int)) ∨ (jbOf H b).isSome=true):run b H [] H.wt=(H,[]):=by
 by_cases hs:(jbOf H b).isSome=true
 ·cases hw:H.wt with
  | nil=>unfold run;rw [← hw]
  | cons n r=>rw [run,if_pos hs];simp [← hw]
 ·have hn:jbOf H b=none:=by simpa using hs
  have h1:=h.resolve_right hs
  have:=run_skip b H hn H.wt [] [] h1
  rw [List.append_nil] at this
  rw [this,run]
  simp
theorem run_first (b:Nat) (H:Hm) (hn:jbOf H b=none) (l1 l2:List Nt) (n:Nt) (hw:H.wt=l1 ++ n :: l2) (h1:∀ m ∈ l1,m.b ≠ (b:Int)) (hb:n.b=(b:Int)) (r:Hm × List Nt) (hr:r=begin1 { H with wt:=l1 ++ l2 } n) :
  run b H [] H.wt=((run b r.1 [] r.1.wt).1,r.2 ++ (run b r.1 [] r.1.wt).2):=by
 have hb1:r.1={ (begin1 H n).1 with wt:=l1 ++ l2 }:=by rw [hr,begin1_with]
 have hb2:r.2=(begin1 H n).2:=by rw [hr,begin1_with]
 have e1:run b H [] H.wt=((run b (begin1 H n).1 l1 l2).1,(begin1 H n).2 ++ (run b (begin1 H n).1 l1 l2).2):=by
  rw [hw,run_skip b H hn l1 (n :: l2) [] h1,List.nil_append,run,hn]
  rw [if_neg (by simp),if_pos hb]
 have e2:run b r.1 [] r.1.wt=run b (begin1 H n).1 l1 l2:=by
  rw [hb1]
  show run b { (begin1 H n).1 with wt:=l1 ++ l2 } [] (l1 ++ l2)=_
  rw [run_with]
  by_cases hs:(jbOf (begin1 H n).1 b).isSome=true
  ·rw [run_busy b _ _ _ hs,run_busy b _ _ _ hs,List.nil_append]
  ·have hn':jbOf (begin1 H n).1 b=none:=by simpa using hs
   rw [run_skip b _ hn' l1 l2 [] h1,List.nil_append]
 rw [e1,e2,hb2]
end Go.Proofs.YtenhdijbcdkfbaaGreatDoor.hh
