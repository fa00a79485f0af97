/-
 Where a home lies: its cells, its memory, its entries, what is under way, who waits; what a call on it leaves alone; what single writes make of it. No condition but the bounds that each theorem names.
 What a home's small calls answer: isData, Busy, Waits, Entry: contracts. No condition but the bounds that each theorem names.
 Whether a note fits the plan and is to the home: contract. Condition: the table of kinds lies in its variable as the program's text has it.
 slices.Repeat of one entry: contract. No condition but the bounds that each theorem names.
-/
import Derived.Test.YtenhdijbcdkfbaaGreatDoorTl
import Derived.Test.YtenhdijbcdkfbaaGreatDoorHo
import Derived.Test.YtenhdijbcdkfbaaGreatDoorMp
import Derived.Test.YtenhdijbcdkfbaaGreatDoorPk
import Derived.Test.YtenhdijbcdkfbaaGreatDoorMe
import Derived.Test.YtenhdijbcdkfbaaGreatDoorEo
import Derived.WalkSpells
namespace Go.Proofs.YtenhdijbcdkfbaaGreatDoor.hh
set_option linter.unusedVariables false
set_option linter.unusedSimpArgs false
set_option maxRecDepth 1000000
set_option maxHeartbeats 16000000
open Go Go.ChangeShapes Go.WideShapes Go.ChangeAt Go.RowKit
open Go.Proofs.YtenhdijbcdkfbaaGreatDoor.tt (Nt Cfg fits net bare zd usd uses coreOf ok_ends MapAt mput mdel ik NPool NSl Turn flat na nt zn grown_alloc grown_refl grown_trans tyne lt_of)
open Go.Proofs.YtenhdijbcdkfbaaGreatDoor.en (En gets back asked asks free ask_parts may_parts)
open Go.Proofs.YtenhdijbcdkfbaaGreatDoor.mm (wi wo ones wo_lt)
def askA (j:Jb):Array Value:=#[.int .u8 j.a.k,.int .i64 j.a.f,.int .u32 (j.w:Int),.bool j.r,.int .u64 j.l]
def und (H:Hm) (k:Int):Option Value:=if 0 ≤ k then (jbOf H k.toNat).map fun j=> .agg (askA j) else none
def et (e:En):List Value:=[.int .i64 e.o,.int .u32 (e.s:Int)]
theorem et_len (e:En):(et e).length=2:=rfl
theorem et_one (e:En):∀ v ∈ et e,v.oneCell'=true:=fun v hv=>by simp [et] at hv;rcases hv with rfl | rfl <;> rfl
def room (c:Cfg):Nat:=(roomH c).toNat
structure Ft where
 mb:Nat
 mv:Value
 ev:Value
 ub:Nat
 pb:Nat
 pv:Value
def Ft.own (F:Ft) (i:Nat):Prop:=F.mv.ownBlock=some i ∨ F.ev.ownBlock=some i ∨ i=F.ub ∨ i=F.pb ∨ F.pv.ownBlock=some i
def gs:Nat:=max (max 2 1) 0 + 1
structure HomeAt (w:World) (h:Nat) (c:Cfg) (F:Ft) (H:Hm):Prop where
 blk:w.heap[h]?=some (.cells #[.int .i64 c.co,.pointer (some ⟨F.mb,0,none⟩),F.ev,.map (some F.ub),.pointer (some ⟨F.pb,0,none⟩)] 88 (0,0))
 mem:pp.Mem w F.mb F.mv H.mm
 ent:tt.Sl w 58 2 F.ev H.en.length (flat et H.en)
 und:MapAt w F.ub (hh.und H)
 pool:NPool w F.pb F.pv (room c) H.wt
 inv:Inv c H
 ok:∀ (b:Nat) (j:Jb),H.jb[b]?=some (some j)→j.d=decide (j.w=0)
 full:H.wt.length ≤ room c
 low:∀ i,F.own i→gs ≤ i
structure Did (w w':World) (F F':Ft):Prop where
 os:w'.os=w.os
 tape:w'.tape=w.tape
 output:w'.output=w.output
 size:w.heap.size ≤ w'.heap.size
 block:∀ i,i < w.heap.size→¬ F.own i→w'.heap[i]?=w.heap[i]?
 mb:F'.mb=F.mb
 mv:F'.mv=F.mv
 ev:F'.ev=F.ev
 ub:F'.ub=F.ub
 pb:F'.pb=F.pb
 next:tt.Next w w' F.pv F'.pv
section
variable {w w':World} {F F':Ft}
theorem Did.own (h:Did w w' F F') {i:Nat} (hi:i < w.heap.size) (hn:¬ F.own i):¬ F'.own i:=by
 unfold Ft.own at hn ⊢
 rw [h.mv,h.ev,h.ub,h.pb]
 rintro (e | e | e | e | e)
 ·exact hn (.inl e)
 ·exact hn (.inr (.inl e))
 ·exact hn (.inr (.inr (.inl e)))
 ·exact hn (.inr (.inr (.inr (.inl e))))
 ·rcases h.next with h1 | h1
  ·exact hn (.inr (.inr (.inr (.inr (h1 ▸ e)))))
  ·have:=h1 i e;omega
theorem Did.refl (w:World) (F:Ft):Did w w F F:=⟨rfl,rfl,rfl,Nat.le_refl _,fun _ _ _=>rfl,rfl,rfl,rfl,rfl,rfl,.inl rfl⟩
theorem Did.trans {a b c:World} {F F' F'':Ft} (h:Did a b F F') (k:Did b c F' F''):Did a c F F'':=
 ⟨k.os.trans h.os,k.tape.trans h.tape,k.output.trans h.output,Nat.le_trans h.size k.size,fun i hi hn=>(k.block i (Nat.lt_of_lt_of_le hi h.size) (h.own hi hn)).trans (h.block i hi hn),k.mb.trans h.mb,k.mv.trans h.mv,k.ev.trans h.ev,k.ub.trans h.ub,k.pb.trans h.pb,by
  rcases k.next with k1 | k1
  ·rcases h.next with h1 | h1
   ·exact .inl (k1.trans h1)
   ·exact .inr fun i hi=>h1 i (k1 ▸ hi)
  ·exact .inr fun i hi=>Nat.le_trans h.size (k1 i hi)⟩
theorem Did.of_grown (F:Ft) (h:w.grownBy w' none):Did w w' F F:=⟨h.os,h.tape,h.output,h.size,fun k hk _=>h.block k hk (by simp),rfl,rfl,rfl,rfl,rfl,.inl rfl⟩
theorem Did.of_own {own:Option Nat} (h:w.grownBy w' own) (ho:∀ i,own=some i→F.own i):Did w w' F F:=⟨h.os,h.tape,h.output,h.size,fun k hk hn=>h.block k hk (fun e=>hn (ho k e.symm)),rfl,rfl,rfl,rfl,rfl,.inl rfl⟩
theorem Did.of_turn {v':Value} (h:Turn w w' F.pb F.pv v'):Did w w' F { F with pv:=v' }:=
 ⟨h.os,h.tape,h.output,h.size,fun k hk hn=>h.block k hk (fun e=>hn (.inr (.inr (.inr (.inl e))))) (fun e=>hn (.inr (.inr (.inr (.inr e.symm))))),rfl,rfl,rfl,rfl,rfl,h.next⟩
theorem Did.heap (h:Did w w' F F') {g:Nat} {o:Obj} (hg:w.heap[g]?=some o) (hn:¬ F.own g):w'.heap[g]?=some o:=(h.block g (lt_of hg) hn).trans hg
theorem Did.cell (h:Did w w' F F') {a:Addr} {u:Value} (hc:w.cell? a=some u) (hn:¬ F.own a.block):w'.cell? a=some u:=
 (World.cell?_of_block (h.block a.block (World.block_lt_of_cell? w a hc) hn)).trans hc
theorem Did.range (h:Did w w' F F') {g:Nat} {xs:List Value} (hr:w.rangeAt g 0 xs) (hg:g < w.heap.size) (hn:¬ F.own g):w'.rangeAt g 0 xs:=fun j x hx=>by
 have:=hr j x hx
 rw [← this]
 exact World.cell?_of_block (h.block g hg hn)
theorem Did.sl (h:Did w w' F F') {e:TypeId} {s n:Nat} {v:Value} {xs:List Value} (hs:tt.Sl w e s v n xs) (hn:∀ i,v.ownBlock=some i→¬ F.own i):tt.Sl w' e s v n xs:=hs.of_block fun g hg=>h.block g (hs.lt g hg) (hn g hg)
theorem Did.after (hg:w.grownBy w' none) {w2:World} (h:Did w' w2 F F'):Did w w2 F F':=(Did.of_grown F hg).trans h
end
theorem map_or {w:World} {k:Nat} {c1:Array Value} {t:TypeId} {f:Nat × Nat} {b:Nat} {g:Int→Option Value} (h1:w.heap[k]?=some (.cells c1 t f)) (h2:MapAt w b g):k ≠ b:=fun e=>by
 obtain ⟨es,ck,hb,_⟩:=h2
 rw [e,hb] at h1;cases h1
section
variable {w w':World} {h:Nat} {c:Cfg} {F F':Ft} {H:Hm}
theorem room_le (hc:c.may):1 ≤ room c∧room c ≤ 65536∧(room c:Int)=roomH c:=by
 have h1:=tt.hb_bounds (hc.1 0 (by omega))
 have h2:=tt.hb_bounds (hc.1 5 (by omega))
 have h1':1 ≤ c.co∧c.co ≤ 16:=h1
 have h2':1 ≤ c.ba∧c.ba ≤ 4:=h2
 have l:1 * 1 ≤ c.co * (c.ba + 1):=Int.mul_le_mul h1'.1 (by omega) (by decide) (by omega)
 have u:c.co * (c.ba + 1) ≤ 16 * 5:=Int.mul_le_mul h1'.2 (by omega) (by omega) (by decide)
 unfold room roomH
 omega
theorem HomeAt.lt (A:HomeAt w h c F H):h < w.heap.size:=lt_of A.blk
theorem HomeAt.cells (A:HomeAt w h c F H):w.cell? ⟨h,0,none⟩=some (.int .i64 c.co)∧w.cell? ⟨h,1,none⟩=some (.pointer (some ⟨F.mb,0,none⟩))∧w.cell? ⟨h,2,none⟩=some F.ev∧w.cell? ⟨h,3,none⟩=some (.map (some F.ub))∧w.cell? ⟨h,4,none⟩=some (.pointer (some ⟨F.pb,0,none⟩)):=
 ⟨by simp [World.cell?,A.blk],by simp [World.cell?,A.blk],by simp [World.cell?,A.blk],by simp [World.cell?,A.blk],by simp [World.cell?,A.blk]⟩
theorem HomeAt.mtype (A:HomeAt w h c F H) (k:Nat) (hk:F.mv.ownBlock=some k):∃ cur,w.heap[k]?=some (.cells cur 73 (0,0)):=by
 obtain ⟨ps,hs,_⟩:=A.mem.sl
 rcases hs with ⟨e,_⟩ | ⟨g,off,cap,cur,e,hb,_⟩
 ·rw [e] at hk;simp [Value.ownBlock] at hk
 ·rw [e] at hk;simp [Value.ownBlock] at hk;subst hk;exact ⟨_,hb⟩
theorem HomeAt.own_lt (A:HomeAt w h c F H) {i:Nat} (hi:F.own i):i < w.heap.size:=by
 rcases hi with e | e | e | e | e
 ·obtain ⟨_,hb⟩:=A.mtype i e;exact lt_of hb
 ·exact A.ent.lt i e
 ·rw [e];exact A.und.lt
 ·rw [e];exact A.pool.lt
 ·exact A.pool.sl.lt i e
theorem HomeAt.not_own (A:HomeAt w h c F H) {i:Nat} {cs:Array Value} {t:TypeId} {fr:Nat × Nat} (hi:w.heap[i]?=some (.cells cs t fr)) (h1:t ≠ 73) (h2:t ≠ 58) (h3:t ≠ 116) (h4:t ≠ 45):¬ F.own i:=by
 rintro (e | e | e | e | e)
 ·obtain ⟨_,hb⟩:=A.mtype i e;exact tyne hi hb h1 rfl
 ·obtain ⟨_,hb⟩:=A.ent.type i e;exact tyne hi hb h2 rfl
 ·exact map_or hi A.und e
 ·rw [e] at hi;exact tyne hi A.pool.blk h3 rfl
 ·obtain ⟨_,hb⟩:=A.pool.sl.type i e;exact tyne hi hb h4 rfl
theorem HomeAt.h_own (A:HomeAt w h c F H):¬ F.own h:=A.not_own A.blk (by decide) (by decide) (by decide) (by decide)
theorem HomeAt.mb_own (A:HomeAt w h c F H):¬ F.own F.mb:=A.not_own A.mem.blk (by decide) (by decide) (by decide) (by decide)
theorem mem_of_block {w w':World} {b:Nat} {v:Value} {bs:List (List Int)} (h:pp.Mem w b v bs) (hb:w'.heap[b]?=w.heap[b]?) (hv:∀ k,v.ownBlock=some k→w'.heap[k]?=w.heap[k]?) (hr:∀ (q:Nat) cs fr,w.heap[q]?=some (.cells cs 43 fr)→w'.heap[q]?=w.heap[q]?):pp.Mem w' b v bs:=by
 obtain ⟨ps,hs,h1,h2⟩:=h.sl
 exact ⟨hb.trans h.blk,⟨ps,hs.of_block hv,h1,fun i q x hp hx=>(hr q _ _ (h2 i q x hp hx)).trans (h2 i q x hp hx)⟩,h.len⟩
theorem HomeAt.keep (A:HomeAt w h c F H) (hk:∀ i,i < w.heap.size→(F.own i ∨ i=h ∨ i=F.mb ∨ ∃ cs fr,w.heap[i]?=some (.cells cs 43 fr))→w'.heap[i]?=w.heap[i]?):HomeAt w' h c F H:=
 ⟨(hk h A.lt (.inr (.inl rfl))).trans A.blk,mem_of_block A.mem (hk _ A.mem.lt (.inr (.inr (.inl rfl)))) (fun k e=>hk k (A.own_lt (.inl e)) (.inl (.inl e))) (fun q cs fr e=>hk q (lt_of e) (.inr (.inr (.inr ⟨cs,fr,e⟩)))),
  A.ent.of_block fun k e=>hk k (A.own_lt (.inr (.inl e))) (.inl (.inr (.inl e))),A.und.same (hk _ A.und.lt (.inl (.inr (.inr (.inl rfl))))),A.pool.of_block (hk _ A.pool.lt (.inl (.inr (.inr (.inr (.inl rfl)))))) (fun k e=>hk k (A.own_lt (.inr (.inr (.inr (.inr e))))) (.inl (.inr (.inr (.inr (.inr e)))))),A.inv,A.ok,A.full,A.low⟩
theorem HomeAt.grown (A:HomeAt w h c F H) (hg:w.grownBy w' none):HomeAt w' h c F H:=A.keep fun i hi _=>hg.block i hi (by simp)
theorem HomeAt.other (A:HomeAt w h c F H) {g:Nat} (hg:w.grownBy w' (some g)) (hn:¬ F.own g) (hh:g ≠ h) (hm:g ≠ F.mb) (hb:∀ cs fr,w.heap[g]? ≠ some (.cells cs 43 fr)):HomeAt w' h c F H:=
 A.keep fun i hi ho=>hg.block i hi (fun e=>by
  cases e
  rcases ho with ho | ho | ho | ⟨cs,fr,ho⟩
  ·exact hn ho
  ·exact hh ho
  ·exact hm ho
  ·exact hb cs fr ho)
theorem HomeAt.setMem (A:HomeAt w h c F H) {mm:List (List Int)} (hM:pp.Mem w' F.mb F.mv mm) (hg:w.grownBy w' F.mv.ownBlock) (hI:Inv c { H with mm:=mm }):HomeAt w' h c F { H with mm:=mm }:=by
 have ne:∀ {i:Nat} {cs t fr},w.heap[i]?=some (.cells cs t fr)→t ≠ 73→some i ≠ F.mv.ownBlock:=fun hi ht e=>by
  obtain ⟨_,hb⟩:=A.mtype _ e.symm;exact tyne hi hb ht rfl
 refine ⟨(hg.block h A.lt (ne A.blk (by decide))).trans A.blk,hM,A.ent.of_block fun k e=>hg.block k (A.ent.lt k e) (by obtain ⟨_,hb⟩:=A.ent.type k e;exact ne hb (by decide)),
  A.und.same (hg.block _ A.und.lt fun e=>by obtain ⟨_,hb⟩:=A.mtype _ e.symm;exact map_or hb A.und rfl),A.pool.of_block (hg.block _ A.pool.lt (ne A.pool.blk (by decide))) (fun k e=>hg.block k (A.pool.sl.lt k e) (by obtain ⟨_,hb⟩:=A.pool.sl.type k e;exact ne hb (by decide))),hI,A.ok,A.full,A.low⟩
theorem HomeAt.setUnd (A:HomeAt w h c F H) {f:Int→Option Value} {jb:List (Option Jb)} (hM:MapAt w' F.ub f) (hg:w.grownBy w' (some F.ub)) (he:∀ k,f k=hh.und { H with jb:=jb } k) (hI:Inv c { H with jb:=jb }) (hO:∀ (b:Nat) (j:Jb),jb[b]?=some (some j)→j.d=decide (j.w=0)):HomeAt w' h c F { H with jb:=jb }:=by
 have ne:∀ {i:Nat} {cs t fr},w.heap[i]?=some (.cells cs t fr)→some i ≠ some F.ub:=fun hi e=>map_or hi A.und (Option.some.inj e)
 refine ⟨(hg.block h A.lt (ne A.blk)).trans A.blk,mem_of_block A.mem (hg.block _ A.mem.lt (ne A.mem.blk)) (fun k e=>by obtain ⟨_,hb⟩:=A.mtype k e;exact hg.block k (lt_of hb) (ne hb)) (fun q cs fr e=>hg.block q (lt_of e) (ne e)),A.ent.of_block fun k e=>hg.block k (A.ent.lt k e) (by obtain ⟨_,hb⟩:=A.ent.type k e;exact ne hb),
  ?_,A.pool.of_block (hg.block _ A.pool.lt (ne A.pool.blk)) (fun k e=>hg.block k (A.pool.sl.lt k e) (by obtain ⟨_,hb⟩:=A.pool.sl.type k e;exact ne hb)),hI,hO,A.full,A.low⟩
 have:f=hh.und { H with jb:=jb }:=funext he
 rw [← this];exact hM
theorem HomeAt.setPool (A:HomeAt w h c F H) {v':Value} {ws:List Nt} (hP:NPool w' F.pb v' (room c) ws) (hT:Turn w w' F.pb F.pv v') (hI:Inv c { H with wt:=ws }) (hf:ws.length ≤ room c):HomeAt w' h c { F with pv:=v' } { H with wt:=ws }:=by
 have nb:∀ {i:Nat} {cs t fr},w.heap[i]?=some (.cells cs t fr)→t ≠ 116→i ≠ F.pb:=fun hi ht e=>by rw [e] at hi;exact tyne hi A.pool.blk ht rfl
 have nv:∀ {i:Nat} {cs t fr},w.heap[i]?=some (.cells cs t fr)→t ≠ 45→some i ≠ F.pv.ownBlock:=fun hi ht e=>by
  obtain ⟨_,hb⟩:=A.pool.sl.type _ e.symm;exact tyne hi hb ht rfl
 have ub:some F.ub ≠ F.pv.ownBlock:=fun e=>by obtain ⟨_,hb⟩:=A.pool.sl.type _ e.symm;exact map_or hb A.und rfl
 refine ⟨(hT.block h A.lt (nb A.blk (by decide)) (nv A.blk (by decide))).trans A.blk,mem_of_block A.mem (hT.block _ A.mem.lt (nb A.mem.blk (by decide)) (nv A.mem.blk (by decide))) (fun k e=>by obtain ⟨_,hb⟩:=A.mtype k e;exact hT.block k (lt_of hb) (nb hb (by decide)) (nv hb (by decide))) (fun q cs fr e=>hT.block q (lt_of e) (nb e (by decide)) (nv e (by decide))),
  A.ent.of_block fun k e=>by obtain ⟨_,hb⟩:=A.ent.type k e;exact hT.block k (lt_of hb) (nb hb (by decide)) (nv hb (by decide)),A.und.same (hT.block _ A.und.lt (fun e=>map_or A.pool.blk A.und e.symm) ub),hP,hI,A.ok,hf,fun i hi=>?_⟩
 rcases hi with e | e | e | e | e
 ·exact A.low i (.inl e)
 ·exact A.low i (.inr (.inl e))
 ·exact A.low i (.inr (.inr (.inl e)))
 ·exact A.low i (.inr (.inr (.inr (.inl e))))
 ·rcases hT.next with h1 | h1
  ·exact A.low i (.inr (.inr (.inr (.inr (h1 ▸ e)))))
  ·exact Nat.le_trans (Nat.le_of_lt (Nat.lt_of_le_of_lt (A.low F.pb (.inr (.inr (.inr (.inl rfl))))) A.pool.lt)) (h1 i e)
theorem HomeAt.setEnt (A:HomeAt w h c F H) {g off cap n:Nat} (hv:F.ev = .slice (some ⟨g,off,none⟩) n cap) {b:Nat} (hb:b < H.en.length) (e:En) (hI:Inv c { H with en:=H.en.set b e }) :
  HomeAt ((w.setCell ⟨g,off + b * 2,none⟩ (.int .i64 e.o)).setCell ⟨g,off + b * 2 + 1,none⟩ (.int .u32 (e.s:Int))) h c F { H with en:=H.en.set b e }∧w.grownBy ((w.setCell ⟨g,off + b * 2,none⟩ (.int .i64 e.o)).setCell ⟨g,off + b * 2 + 1,none⟩ (.int .u32 (e.s:Int))) (some g):=by
 obtain ⟨w1,hw1⟩:∃ w1,(w.setCell ⟨g,off + b * 2,none⟩ (.int .i64 e.o)).setCell ⟨g,off + b * 2 + 1,none⟩ (.int .u32 (e.s:Int))=w1:=⟨_,rfl⟩
 have hset:w1=w.setCells g (off + b * 2) (et e):=by rw [← hw1];rfl
 have hg:w.grownBy w1 (some g):=by rw [hset];exact tt.grown_setCells w g _ _
 rw [hw1]
 refine ⟨?_,hg⟩
 rcases A.ent with ⟨e1,_⟩ | ⟨g',off',cap',cur,e1,hcur,h1,h2,h3,h4,h5⟩
 ·rw [hv] at e1;cases e1
 have e1':=e1
 rw [hv] at e1';cases e1'
 have ne:∀ {i:Nat} {cs t fr},w.heap[i]?=some (.cells cs t fr)→t ≠ 58→some i ≠ some g:=fun hi ht e=>tyne hi hcur ht (Option.some.inj e)
 have hbc:b * 2 + 2 ≤ cap * 2:=by omega
 obtain ⟨cur',q1,q2,q3,q4⟩:=tt.heap_setCells g 58 (et e) (off + b * 2) w cur hcur (by rw [et_len];omega)
 rw [← hset] at q1
 refine ⟨(hg.block h A.lt (ne A.blk (by decide))).trans A.blk,mem_of_block A.mem (hg.block _ A.mem.lt (ne A.mem.blk (by decide))) (fun k e=>by obtain ⟨_,hb⟩:=A.mtype k e;exact hg.block k (lt_of hb) (ne hb (by decide))) (fun q cs fr e=>hg.block q (lt_of e) (ne e (by decide))),?_,
  A.und.same (hg.block _ A.und.lt (fun e=>map_or hcur A.und (Option.some.inj e).symm)),A.pool.of_block (hg.block _ A.pool.lt (ne A.pool.blk (by decide))) (fun k e=>by obtain ⟨_,hb⟩:=A.pool.sl.type k e;exact hg.block k (lt_of hb) (ne hb (by decide))),hI,A.ok,A.full,A.low⟩
 refine .inr ⟨g,off,cap,cur',by rw [List.length_set];exact e1,q1,by rw [tt.flat_len et_len],by rw [List.length_set];exact h2,h3,by omega,fun k x hk=>?_⟩
 have hk':k < (H.en.set b e).length * 2:=by rw [← tt.flat_len et_len];exact (List.getElem?_eq_some_iff.1 hk).1
 rw [List.length_set] at hk'
 obtain ⟨y,hy⟩:∃ y,(H.en.set b e)[k / 2]?=some y:=⟨_,List.getElem?_eq_getElem (by rw [List.length_set];omega)⟩
 obtain ⟨z,hz⟩:∃ z,(et y)[k % 2]?=some z:=⟨_,List.getElem?_eq_getElem (by rw [et_len];omega)⟩
 have hkk:k / 2 * 2 + k % 2=k:=by omega
 have:=tt.flat_at et_len _ _ y _ z hy hz
 rw [hkk,hk] at this
 cases this
 by_cases hkb:k / 2=b
 ·have hy':y=e:=by
   rw [hkb,List.getElem?_set_self hb] at hy;exact (Option.some.inj hy).symm
  subst hy'
  have:=q4 (k % 2) x hz
  rw [show off + b * 2 + k % 2=off + k by omega] at this
  exact this
 ·rw [List.getElem?_set_ne (fun e=>hkb e.symm)] at hy
  rw [q3 (off + k) (by rw [et_len];omega)]
  refine h5 k x ?_
  have:=tt.flat_at et_len _ _ y _ x hy hz
  rwa [hkk] at this
theorem HomeAt.entCells (A:HomeAt w h c F H) {b:Nat} (hb:b < H.en.length):∃ g off cap,F.ev = .slice (some ⟨g,off,none⟩) H.en.length cap∧w.cell? ⟨g,off + b * 2,none⟩=some (.int .i64 (enOf H b).o)∧w.cell? ⟨g,off + b * 2 + 1,none⟩=some (.int .u32 ((enOf H b).s:Int))∧w.frozen? ⟨g,off + b * 2,none⟩=false∧w.frozen? ⟨g,off + b * 2 + 1,none⟩=false:=by
 have hy:H.en[b]?=some (enOf H b):=by unfold enOf;rw [List.getD_eq_getElem?_getD,List.getElem?_eq_getElem hb];rfl
 rcases A.ent with ⟨_,e0,_⟩ | ⟨g,off,cap,cur,e1,hcur,h1,h2,h3,h4,h5⟩
 ·omega
 refine ⟨g,off,cap,e1,?_,?_,by simp [World.frozen?,hcur],by simp [World.frozen?,hcur]⟩
 ·have:=h5 _ _ (tt.flat_at et_len _ _ _ 0 _ hy rfl)
  rw [Nat.add_zero] at this
  simp [World.cell?,hcur,this]
 ·have:=h5 _ _ (tt.flat_at et_len _ _ _ 1 _ hy rfl)
  rw [← Nat.add_assoc] at this
  simp [World.cell?,hcur,this]
end
theorem Did.tabs {w w':World} {F F':Ft} (h:Did w w' F F') (hl:∀ i,F.own i→gs ≤ i):(mm.Tab w→mm.Tab w')∧(tt.TabK w→tt.TabK w')∧(tt.Tab w→tt.Tab w'):=by
 have n1:¬ F.own 2:=fun e=>by have:=hl _ e;unfold gs at this;omega
 have n2:¬ F.own 1:=fun e=>by have:=hl _ e;unfold gs at this;omega
 have n3:¬ F.own 0:=fun e=>by have:=hl _ e;unfold gs at this;omega
 exact ⟨fun hT j hj=>h.cell (hT j hj) n1,fun hT j hj=>h.cell (hT j hj) n2,fun hT j hj=>⟨h.cell (hT j hj).1 n3,h.cell (hT j hj).2.1 n3,h.cell (hT j hj).2.2 n3⟩⟩
theorem mtab_grown {w w':World} (hT:mm.Tab w) (hg:w.grownBy w' none):mm.Tab w':=fun j hj=>hg.cell (hT j hj) (by simp)
theorem und_put {H:Hm} {b:Nat} (hb:b < H.jb.length) (j:Jb) (k:Int):mput (und H) (b:Int) (.agg (askA j)) k=und { H with jb:=H.jb.set b (some j) } k:=by
 unfold mput und jbOf
 by_cases hk:k=(b:Int)
 ·subst hk
  rw [if_pos rfl,if_pos (by omega),Int.toNat_natCast,List.getD_eq_getElem?_getD]
  show _=Option.map _ (((H.jb.set b (some j))[b]?).getD none)
  rw [List.getElem?_set_self hb];rfl
 ·rw [if_neg hk]
  by_cases h0:0 ≤ k
  ·rw [if_pos h0,if_pos h0,List.getD_eq_getElem?_getD,List.getD_eq_getElem?_getD]
   show _=Option.map _ (((H.jb.set b (some j))[k.toNat]?).getD none)
   rw [List.getElem?_set_ne (by omega)]
  ·rw [if_neg h0,if_neg h0]
theorem und_del {H:Hm} {b:Nat} (k:Int):mdel (und H) (b:Int) k=und { H with jb:=H.jb.set b none } k:=by
 unfold mdel und jbOf
 by_cases hk:k=(b:Int)
 ·subst hk
  rw [if_pos rfl,if_pos (by omega),Int.toNat_natCast,List.getD_eq_getElem?_getD]
  show _=Option.map _ (((H.jb.set b none)[b]?).getD none)
  rw [List.getElem?_set]
  by_cases hb:b < H.jb.length <;> simp [hb]
 ·rw [if_neg hk]
  by_cases h0:0 ≤ k
  ·rw [if_pos h0,if_pos h0,List.getD_eq_getElem?_getD,List.getD_eq_getElem?_getD]
   show _=Option.map _ (((H.jb.set b none)[k.toNat]?).getD none)
   rw [List.getElem?_set_ne (by omega)]
  ·rw [if_neg h0,if_neg h0]
theorem und_at {H:Hm} (b:Nat):und H (b:Int)=(jbOf H b).map fun j=> .agg (askA j):=by unfold und;rw [if_pos (by omega),Int.toNat_natCast]
theorem row_same (x:List Int):tt.row x=pp.row x:=rfl
theorem zeroAsk (w:World):(zeroValue 93).run Tryz.prog w = .ok (.agg #[.int .u8 0,.int .i64 0,.int .u32 0,.bool false,.int .u64 0]) w:=by kernel_rfl
def askOr (H:Hm) (b:Nat):Array Value:=match jbOf H b with | some j=>askA j | none=>#[.int .u8 0,.int .i64 0,.int .u32 0,.bool false,.int .u64 0]
theorem HomeAt.look {w:World} {h:Nat} {c:Cfg} {F:Ft} {H:Hm} (A:HomeAt w h c F H) (b:Nat):(Instr.lookup 86 (.map (some F.ub)) (.int .i64 (b:Int)) true).run Tryz.prog w = .ok (.tuple #[.agg (askOr H b),.bool (jbOf H b).isSome]) w:=by
 have:=tt.run_lookup_ok Tryz.underlying86 Tryz.underlying3 A.und (zeroAsk w) (b:Int)
 rw [this,und_at]
 unfold askOr
 cases jbOf H b <;> rfl
theorem HomeAt.look1 {w:World} {h:Nat} {c:Cfg} {F:Ft} {H:Hm} (A:HomeAt w h c F H) (b:Nat):(Instr.lookup 86 (.map (some F.ub)) (.int .i64 (b:Int)) false).run Tryz.prog w = .ok (.agg (askOr H b)) w:=by
 have:=tt.run_lookup_map Tryz.underlying86 Tryz.underlying3 A.und (zeroAsk w) (b:Int)
 rw [this,und_at]
 unfold askOr
 cases jbOf H b <;> rfl
end Go.Proofs.YtenhdijbcdkfbaaGreatDoor.hh
namespace Go.Proofs.YtenhdijbcdkfbaaGreatDoor.hh
set_option linter.unusedVariables false
set_option linter.unusedSimpArgs false
set_option maxRecDepth 1000000
set_option maxHeartbeats 16000000
open Go Go.ChangeShapes Go.WideShapes Go.ChangeAt Go.RowKit
open Go.Proofs.YtenhdijbcdkfbaaGreatDoor.tt (Nt Cfg fits net bare zd usd uses coreOf ok_ends MapAt mput mdel ik NPool NSl Turn flat na nt zn grown_alloc grown_refl grown_trans tyne lt_of)
open Go.Proofs.YtenhdijbcdkfbaaGreatDoor.en (En gets back asked asks free ask_parts may_parts ea)
open Go.Proofs.YtenhdijbcdkfbaaGreatDoor.mm (wi wo ones wo_lt)
theorem ret2 {fn:Func} {p u:Tmp} (h:fn.results=#[.cell p 58,.tmp u]) {tmps:Array Value} {w:World} {g:Nat} {t:TypeId} {a b x:Value} {fr:Nat × Nat} {Q:Ending→World→Prop}
  (hp:tmps.getD p undef = .pointer (some ⟨g,0,none⟩)) (hu:tmps.getD u undef=x) (hg:w.heap[g]?=some (.cells #[a,b] t fr)) (hQ:Q (.returned (.tuple #[.agg #[a,b],x])) w):bodyPost Tryz.prog fn Q .ret { tmps:=tmps,defers:=[] } w:=by
 refine bodyPost_ret (v:= .tuple #[.agg #[a,b],x]) ?_ rfl hQ
 have hl:=run_loadVar_row (P:=Tryz.prog) w g t 58 #[a,b] fr _ hg Tryz.underlying58 rfl (en.infoE a b)
 have hp':tmps[p]?.getD undef = .pointer (some ⟨g,0,none⟩):=by simpa using hp
 have hu':tmps[u]?.getD undef=x:=by simpa using hu
 simp [results,h,hp',hu',asAddr,hl]
theorem infoA (x:Array Value) (h:x.size=5):(Tryz.prog.info? 93).map (·.size)=some x.size:=by
 have:(Tryz.prog.info? 93).map (·.size)=some 5:=by kernel_rfl
 rw [h];exact this
theorem retA {fn:Func} {p:Tmp} (h:fn.results=#[.cell p 93]) {tmps:Array Value} {w:World} {g:Nat} {t:TypeId} {x:Array Value} {fr:Nat × Nat} {Q:Ending→World→Prop} (hx:x.size=5)
  (hp:tmps.getD p undef = .pointer (some ⟨g,0,none⟩)) (hg:w.heap[g]?=some (.cells x t fr)) (hQ:Q (.returned (.agg x)) w):bodyPost Tryz.prog fn Q .ret { tmps:=tmps,defers:=[] } w:=
 bodyPost_ret (v:= .agg x) (results_cell_row h _ _ g t x fr _ hp hg Tryz.underlying93 rfl (infoA x hx)) rfl hQ
theorem heap_new2 (w:World) (o:Obj) (c:Array Value) (t:TypeId):((w.alloc o).alloc (.cells c t)).heap[w.heap.size + 1]?=some (.cells c t (0,0)):=by
 have:=heap_alloc_new (w.alloc o) (.cells c t)
 rwa [World.size_alloc] at this
def refd (j:Jb) (st:Int):Jb:=if j.r=false ∨ st < j.l then { j with r:=true,l:=st } else j
section
variable {w:World} {h:Nat} {c:Cfg} {F:Ft} {H:Hm}
theorem HomeAt.len (A:HomeAt w h c F H):(H.en.length:Int)=c.data:=by
 have:=A.inv.le
 have h2:=A.inv.may.2
 omega
theorem isData_any (A:HomeAt w h c F H) (i:Int):Calls Tryz.prog 54 #[.pointer (some ⟨h,0,none⟩),.int .i64 i] w fun e w'=>e = .returned (.bool (decide (0 ≤ i∧i < c.data)))∧w'=w:=by
 obtain ⟨c0,c1,c2,c3,c4⟩:=A.cells
 obtain ⟨ad,cap,hev⟩:=A.ent.form
 have hl:=A.len
 rw [hev] at c2
 obtain ⟨q,hq⟩:∃ q,q=H.en.length:=⟨_,rfl⟩
 rw [← hq] at c2 hl
 by_cases h0:0 ≤ i
 ·by_cases h1:i < (q:Int)
  ·rw [decide_eq_true (p:=0 ≤ i∧i < c.data) ⟨h0,by omega⟩]
   clear A hev hl hq
   go_enter Tryz.func54,Tryz.ntmps54
   go_wp2
   go_ret
   exact ⟨rfl,rfl⟩
  ·rw [decide_eq_false (p:=0 ≤ i∧i < c.data) (by omega)]
   have h2:decide (i < (q:Int))=false:=decide_eq_false h1
   clear A hev hl hq h1
   go_enter Tryz.func54,Tryz.ntmps54
   go_wp2
   go_ret
   exact ⟨rfl,rfl⟩
 ·rw [decide_eq_false (p:=0 ≤ i∧i < c.data) (by omega)]
  have h2:decide (0 ≤ i)=false:=decide_eq_false h0
  clear A hev hl hq h0
  go_enter Tryz.func54,Tryz.ntmps54
  go_wp2
  go_ret
  exact ⟨rfl,rfl⟩
theorem busy_any (A:HomeAt w h c F H) (b:Nat):Calls Tryz.prog 18 #[.pointer (some ⟨h,0,none⟩),.int .i64 (b:Int)] w fun e w'=>e = .returned (.bool (jbOf H b).isSome)∧w.grownBy w' none:=by
 obtain ⟨c0,c1,c2,c3,c4⟩:=A.cells
 have hlk:=A.look b
 unfold askOr at hlk
 cases hj:jbOf H b with
 | none=>
  rw [hj] at hlk
  dsimp only [Option.isSome] at hlk ⊢
  clear A hj
  go_enter Tryz.func18,Tryz.ntmps18
  go_wp2
  go_ret
  exact ⟨rfl,grown_alloc (grown_refl _ _) _⟩
 | some j=>
  rw [hj] at hlk
  dsimp only [Option.isSome] at hlk ⊢
  unfold askA at hlk
  clear A hj
  go_enter Tryz.func18,Tryz.ntmps18
  go_wp2
  go_ret
  exact ⟨rfl,grown_alloc (grown_refl _ _) _⟩
theorem waits_any (A:HomeAt w h c F H):Calls Tryz.prog 16 #[.pointer (some ⟨h,0,none⟩)] w fun e w'=>e = .returned (.int .i64 (H.wt.length:Int))∧w'=w:=by
 obtain ⟨c0,c1,c2,c3,c4⟩:=A.cells
 have HP:=qh (tt.plen_any F.pb F.pv (room c) H.wt w A.pool)
 clear A
 go_enter Tryz.func16,Tryz.ntmps16
 go_wp2_with (go_at_call 53;((with_reducible refine HP.out.mono ?_);rintro e w' ⟨rfl,rfl⟩))
 go_ret
 exact ⟨rfl,rfl⟩
theorem entry_in (A:HomeAt w h c F H) (b:Nat) (hb:b < H.en.length):Calls Tryz.prog 17 #[.pointer (some ⟨h,0,none⟩),.int .i64 (b:Int)] w fun e w'=>e = .returned (.tuple #[.agg #[.int .i64 (enOf H b).o,.int .u32 ((enOf H b).s:Int)],.int .i64 0])∧w.grownBy w' none:=by
 have hg:w.grownBy (w.alloc (.cells #[.int .i64 0,.int .u32 0] 58)) none:=grown_alloc (grown_refl _ _) _
 have A1:=A.grown hg
 obtain ⟨c0,c1,c2,c3,c4⟩:=A1.cells
 obtain ⟨g,off,cap,hev,e0,e1,_,_⟩:=A1.entCells hb
 have HD:=qh (isData_any A1 (b:Int))
 rw [decide_eq_true (p:=0 ≤ (b:Int)∧(b:Int) < c.data) ⟨by omega,by rw [← A.len];omega⟩] at HD
 rw [hev] at c2
 have hlt:(b:Int) < (H.en.length:Int):=by omega
 have hle:(0:Int) ≤ (b:Int):=by omega
 obtain ⟨q,hq⟩:∃ q,q=H.en.length:=⟨_,rfl⟩
 rw [← hq] at c2 hlt
 generalize enOf H b=x at e0 e1 ⊢
 clear A A1 hev hb hq hg c0 c1 c3 c4
 go_enter Tryz.func17,Tryz.ntmps17
 go_wp2_with (first
  | (go_at_call 54;((with_reducible refine HD.out.mono ?_);rintro e w' ⟨rfl,rfl⟩))
  | ((with_reducible refine en.store_enN _ _ _ _ _ _ ?_ ?_ ?_ ?_);(rfl);(rfl);(rfl)))
 refine ret2 rfl (by rfl) (by rfl) (heap_alloc_new _ _) ⟨rfl,grown_alloc (grown_refl _ _) _⟩
theorem entry_out (A:HomeAt w h c F H) (i:Int) (hb:¬ (0 ≤ i∧i < c.data)):Calls Tryz.prog 17 #[.pointer (some ⟨h,0,none⟩),.int .i64 i] w fun e w'=>e = .returned (.tuple #[.agg #[.int .i64 0,.int .u32 0],.int .i64 5])∧w.grownBy w' none:=by
 have HD:=qh (isData_any (A.grown (grown_alloc (grown_refl w _) (.cells #[.int .i64 0,.int .u32 0] 58))) i)
 rw [decide_eq_false hb] at HD
 clear A hb
 go_enter Tryz.func17,Tryz.ntmps17
 go_wp2_with (go_at_call 54;((with_reducible refine HD.out.mono ?_);rintro e w' ⟨rfl,rfl⟩))
 refine ret2 rfl (by rfl) (by rfl) (heap_alloc_new _ _) ?_
 exact ⟨rfl,grown_alloc (grown_refl _ _) _⟩
theorem refused_any (j:Jb) (st:Int) (w:World):Calls Tryz.prog 69 #[.agg (askA j),.int .u64 st] w fun e w'=>e = .returned (.agg (askA (refd j st)))∧w.grownBy w' none:=by
 obtain ⟨a,m,d,r,l⟩:=j
 unfold refd askA
 dsimp only
 cases r with
 | false=>
  rw [if_pos (.inl rfl)]
  go_enter Tryz.func69,Tryz.ntmps69
  go_wp2
  exact retA rfl (by rfl) (by rfl) (heap_new2 _ _ _ _) ⟨rfl,grown_alloc (grown_alloc (grown_refl _ _) _) _⟩
 | true=>
  by_cases hl:st < l
  ·rw [if_pos (.inr hl)]
   go_enter Tryz.func69,Tryz.ntmps69
   go_wp2
   exact retA rfl (by rfl) (by rfl) (heap_new2 _ _ _ _) ⟨rfl,grown_alloc (grown_alloc (grown_refl _ _) _) _⟩
  ·rw [if_neg (by simp [hl])]
   have h1:decide (st < l)=false:=decide_eq_false hl
   clear hl
   go_enter Tryz.func69,Tryz.ntmps69
   go_wp2
   exact retA rfl (by rfl) (by rfl) (heap_new2 _ _ _ _) ⟨rfl,grown_alloc (grown_alloc (grown_refl _ _) _) _⟩
end
end Go.Proofs.YtenhdijbcdkfbaaGreatDoor.hh
namespace Go.Proofs.YtenhdijbcdkfbaaGreatDoor.hh
set_option linter.unusedVariables false
set_option linter.unusedSimpArgs false
set_option maxRecDepth 1000000
set_option maxHeartbeats 16000000
open Go Go.ChangeShapes Go.WideShapes Go.ChangeAt Go.RowKit
open Go.Proofs.YtenhdijbcdkfbaaGreatDoor.tt (Nt Cfg fits net bare zd usd uses coreOf ok_ends MapAt mput mdel ik NPool NSl Turn flat na nt zn grown_alloc grown_refl grown_trans tyne lt_of)
open Go.Proofs.YtenhdijbcdkfbaaGreatDoor.en (En gets back asked asks free ask_parts may_parts ea)
open Go.Proofs.YtenhdijbcdkfbaaGreatDoor.mm (wi wo ones wo_lt)
section
variable {w:World} {h:Nat} {c:Cfg} {F:Ft} {H:Hm}
theorem hfits_a (A:HomeAt w h c F H) (hK:tt.TabK w) (n:Nt) (ho:¬ n.ok):Calls Tryz.prog 34 #[.pointer (some ⟨h,0,none⟩),.agg (na n)] w fun e w'=>e = .returned (.bool (decide (fits c n∧n.t=-1)))∧w.grownBy w' none:=by
 obtain ⟨wb,hwb⟩:∃ wb,w.alloc (.cells (na n) 45)=wb:=⟨_,rfl⟩
 have hgb:w.grownBy wb none:=by rw [← hwb];exact grown_alloc (grown_refl _ _) _
 have HA:Hid (∀ w',wb.grownBy w' none→HomeAt w' h c F H):=qh fun w' h'=>A.grown (grown_trans hgb h')
 obtain ⟨t',mm,HTT,hagg,hsize,hld⟩:=tt.named
 have hbx:wb.heap[w.heap.size]?=some (.cells (na n) 45 (0,0)):=by rw [← hwb];exact heap_alloc_new _ _
 have HR:Hid (∀ w',wb.grownBy w' none→w'.rangeAt w.heap.size 0 (nt n)):=qh fun w' h=>tt.range_grown (tt.range_of hbx) h (by simp)
 have HK:Hid (∀ w',wb.grownBy w' none→w'.cell? ⟨h,0,none⟩=some (.int .i64 c.co)∧w'.cell? ⟨w.heap.size,1,none⟩=some (.int .i64 n.f)∧w'.cell? ⟨w.heap.size,2,none⟩=some (.int .i64 n.t)∧w'.cell? ⟨w.heap.size,3,none⟩=some (.int .i64 n.b)∧(loadCellsFrom ⟨w.heap.size,0,none⟩ 0 mm #[]).run Tryz.prog w' = .ok (na n) w'):=qh fun w' h'=>⟨(HA.out w' h').cells.1,tt.cell_at (HR.out w' h') 1 _ rfl,tt.cell_at (HR.out w' h') 2 _ rfl,tt.cell_at (HR.out w' h') 3 _ rfl,hld _ _ _ (HR.out w' h')⟩
 have HM:Hid (∀ w',wb.grownBy w' none→_):=qh fun w' h'=>tt.nmay_any n w' ((hK.grown hgb).grown h')
 have HD:Hid (∀ w',wb.grownBy w' none→_):=qh fun w' h'=>isData_any (HA.out w' h') n.b
 have HG:=qh hgb
 obtain ⟨dat,hdat⟩:∃ d,d=c.data:=⟨_,rfl⟩
 rw [← hdat] at HD
 rw [tt.yes_not ho] at HM
 rw [decide_eq_false (p:=fits c n∧n.t=-1) (fun e=>ho e.1.1)]
 clear A hK hgb hbx hld hdat ho
 go_enter Tryz.func34,Tryz.ntmps34
 go_wp2_with fail
 rw [HTT.out]
 refine wp_region_held_drew (S:=fun w'=>wb.grownBy w' none) (by kernel_rfl) (tt.grown_drew (grown_refl _ _)) (fun hHeld=>?_)
 generalize wb.drew=wd at hHeld ⊢
 refine tl 0 ?_ rfl ?_ ?_ ?_
 (rotate_left;(next=>((intro w0 hSw;obtain ⟨hs1,hs2,hs3,hs4,hs5⟩:=HK.out w0 hSw;go_simp);try (with_reducible rfl)));next=>rfl)
 try simp only [lay]
 refine rd 1 rfl fun K hK=>?_
 go_simp
 (with_reducible refine (HM.out _ hHeld).mono ?_);rintro e w5 ⟨rfl,hg5⟩
 go_wp2_with fail
 refine hK.out _ _ (grown_trans hHeld hg5) (fun hHeld=>?_)
 clear hK K
 try simp only [lay]
 refine tl 2 ?_ rfl ?_ ?_ (tl 3 ?_ rfl ?_ ?_ ?_)
 iterate 2 (rotate_left;(next=>(try simp only [lay]);((intro w0 hSw;go_simp);try (with_reducible rfl)));next=>rfl)
 try simp only [lay]
 refine tu 4 rfl ?_
 try simp only [lay]
 refine tu 5 rfl ?_
 try simp only [lay]
 refine tu 6 rfl ?_
 try simp only [lay]
 refine tl 7 ?_ rfl ?_ ?_ (tl 8 ?_ rfl ?_ ?_ ?_)
 iterate 2 (rotate_left;(next=>(try simp only [lay]);((intro w0 hSw;go_simp);try (with_reducible rfl)));next=>rfl)
 try simp only [lay]
 refine tu 9 rfl ?_
 try simp only [lay]
 refine tu 10 rfl ?_
 try simp only [lay]
 refine tu 11 rfl ?_
 try simp only [lay]
 refine tu 12 rfl ?_
 try simp only [lay]
 refine tu 13 rfl ?_
 try simp only [lay]
 refine tu 14 rfl ?_
 try simp only [lay]
 refine tu 15 rfl ?_
 try simp only [lay]
 refine tl 16 ?_ rfl ?_ ?_ (tl 17 ?_ rfl ?_ ?_ ?_)
 iterate 2 (rotate_left;(next=>(try simp only [lay]);((intro w0 hSw;go_simp);try (with_reducible rfl)));next=>rfl)
 try simp only [lay]
 refine tu 18 rfl ?_
 try simp only [lay]
 refine tu 19 rfl ?_
 try simp only [lay]
 refine tu 20 rfl ?_
 try simp only [lay]
 refine tu 21 rfl ?_
 try simp only [lay]
 refine tl 22 ?_ rfl ?_ ?_ (tl 23 ?_ rfl ?_ ?_ ?_)
 iterate 2 (rotate_left;(next=>(try simp only [lay]);((intro w0 hSw;go_simp);try (with_reducible rfl)));next=>rfl)
 try simp only [lay]
 refine wpAnyH_done (by kernel_rfl) ?_ _
 have HF:=qh hHeld
 go_wp2_with fail
 go_ret
 exact ⟨rfl,grown_trans HG.out HF.out⟩
theorem hfits_b (A:HomeAt w h c F H) (hK:tt.TabK w) (n:Nt) (ho:n.ok) (ht:n.t ≠ -1):Calls Tryz.prog 34 #[.pointer (some ⟨h,0,none⟩),.agg (na n)] w fun e w'=>e = .returned (.bool (decide (fits c n∧n.t=-1)))∧w.grownBy w' none:=by
 obtain ⟨wb,hwb⟩:∃ wb,w.alloc (.cells (na n) 45)=wb:=⟨_,rfl⟩
 have hgb:w.grownBy wb none:=by rw [← hwb];exact grown_alloc (grown_refl _ _) _
 have HA:Hid (∀ w',wb.grownBy w' none→HomeAt w' h c F H):=qh fun w' h'=>A.grown (grown_trans hgb h')
 obtain ⟨t',mm,HTT,hagg,hsize,hld⟩:=tt.named
 have hbx:wb.heap[w.heap.size]?=some (.cells (na n) 45 (0,0)):=by rw [← hwb];exact heap_alloc_new _ _
 have HR:Hid (∀ w',wb.grownBy w' none→w'.rangeAt w.heap.size 0 (nt n)):=qh fun w' h=>tt.range_grown (tt.range_of hbx) h (by simp)
 have HK:Hid (∀ w',wb.grownBy w' none→w'.cell? ⟨h,0,none⟩=some (.int .i64 c.co)∧w'.cell? ⟨w.heap.size,1,none⟩=some (.int .i64 n.f)∧w'.cell? ⟨w.heap.size,2,none⟩=some (.int .i64 n.t)∧w'.cell? ⟨w.heap.size,3,none⟩=some (.int .i64 n.b)∧(loadCellsFrom ⟨w.heap.size,0,none⟩ 0 mm #[]).run Tryz.prog w' = .ok (na n) w'):=qh fun w' h'=>⟨(HA.out w' h').cells.1,tt.cell_at (HR.out w' h') 1 _ rfl,tt.cell_at (HR.out w' h') 2 _ rfl,tt.cell_at (HR.out w' h') 3 _ rfl,hld _ _ _ (HR.out w' h')⟩
 have HM:Hid (∀ w',wb.grownBy w' none→_):=qh fun w' h'=>tt.nmay_any n w' ((hK.grown hgb).grown h')
 have HD:Hid (∀ w',wb.grownBy w' none→_):=qh fun w' h'=>isData_any (HA.out w' h') n.b
 have HG:=qh hgb
 obtain ⟨dat,hdat⟩:∃ d,d=c.data:=⟨_,rfl⟩
 rw [← hdat] at HD
 rw [tt.yes_of ho] at HM
 rw [decide_eq_false (p:=fits c n∧n.t=-1) (fun e=>ht e.2)]
 have e1:(n.t == -1)=false:=by simpa using ht
 clear A hK hgb hbx hld hdat ho ht
 go_enter Tryz.func34,Tryz.ntmps34
 go_wp2_with fail
 rw [HTT.out]
 refine wp_region_held_drew (S:=fun w'=>wb.grownBy w' none) (by kernel_rfl) (tt.grown_drew (grown_refl _ _)) (fun hHeld=>?_)
 generalize wb.drew=wd at hHeld ⊢
 refine tl 0 ?_ rfl ?_ ?_ ?_
 (rotate_left;(next=>((intro w0 hSw;obtain ⟨hs1,hs2,hs3,hs4,hs5⟩:=HK.out w0 hSw;go_simp);try (with_reducible rfl)));next=>rfl)
 try simp only [lay]
 refine rd 1 rfl fun K hK=>?_
 go_simp
 (with_reducible refine (HM.out _ hHeld).mono ?_);rintro e w5 ⟨rfl,hg5⟩
 go_wp2_with fail
 refine hK.out _ _ (grown_trans hHeld hg5) (fun hHeld=>?_)
 clear hK K
 try simp only [lay]
 refine tl 2 ?_ rfl ?_ ?_ (tl 3 ?_ rfl ?_ ?_ (tl 4 ?_ rfl ?_ ?_ (tl 5 ?_ rfl ?_ ?_ (tl 6 ?_ rfl ?_ ?_ (tl 7 ?_ rfl ?_ ?_ (tl 8 ?_ rfl ?_ ?_ ?_))))))
 iterate 7 (rotate_left;(next=>(try simp only [lay]);((intro w0 hSw;obtain ⟨hs1,hs2,hs3,hs4,hs5⟩:=HK.out w0 hSw;go_simp);try (with_reducible rfl)));next=>rfl)
 try simp only [lay]
 refine tu 9 rfl ?_
 try simp only [lay]
 refine tu 10 rfl ?_
 try simp only [lay]
 refine tu 11 rfl ?_
 try simp only [lay]
 refine tu 12 rfl ?_
 try simp only [lay]
 refine tu 13 rfl ?_
 try simp only [lay]
 refine tu 14 rfl ?_
 try simp only [lay]
 refine tu 15 rfl ?_
 try simp only [lay]
 refine tl 16 ?_ rfl ?_ ?_ (tl 17 ?_ rfl ?_ ?_ ?_)
 iterate 2 (rotate_left;(next=>(try simp only [lay]);((intro w0 hSw;go_simp);try (with_reducible rfl)));next=>rfl)
 try simp only [lay]
 refine tu 18 rfl ?_
 try simp only [lay]
 refine tu 19 rfl ?_
 try simp only [lay]
 refine tu 20 rfl ?_
 try simp only [lay]
 refine tu 21 rfl ?_
 try simp only [lay]
 refine tl 22 ?_ rfl ?_ ?_ (tl 23 ?_ rfl ?_ ?_ ?_)
 iterate 2 (rotate_left;(next=>(try simp only [lay]);((intro w0 hSw;go_simp);try (with_reducible rfl)));next=>rfl)
 try simp only [lay]
 refine wpAnyH_done (by kernel_rfl) ?_ _
 have HF:=qh hHeld
 go_wp2_with fail
 go_ret
 exact ⟨rfl,grown_trans HG.out HF.out⟩
theorem hfits_c (A:HomeAt w h c F H) (hK:tt.TabK w) (n:Nt) (ho:n.ok) (ht:n.t=-1) (hf:¬ n.f < c.co):Calls Tryz.prog 34 #[.pointer (some ⟨h,0,none⟩),.agg (na n)] w fun e w'=>e = .returned (.bool (decide (fits c n∧n.t=-1)))∧w.grownBy w' none:=by
 obtain ⟨wb,hwb⟩:∃ wb,w.alloc (.cells (na n) 45)=wb:=⟨_,rfl⟩
 have hgb:w.grownBy wb none:=by rw [← hwb];exact grown_alloc (grown_refl _ _) _
 have HA:Hid (∀ w',wb.grownBy w' none→HomeAt w' h c F H):=qh fun w' h'=>A.grown (grown_trans hgb h')
 obtain ⟨t',mm,HTT,hagg,hsize,hld⟩:=tt.named
 have hbx:wb.heap[w.heap.size]?=some (.cells (na n) 45 (0,0)):=by rw [← hwb];exact heap_alloc_new _ _
 have HR:Hid (∀ w',wb.grownBy w' none→w'.rangeAt w.heap.size 0 (nt n)):=qh fun w' h=>tt.range_grown (tt.range_of hbx) h (by simp)
 have HK:Hid (∀ w',wb.grownBy w' none→w'.cell? ⟨h,0,none⟩=some (.int .i64 c.co)∧w'.cell? ⟨w.heap.size,1,none⟩=some (.int .i64 n.f)∧w'.cell? ⟨w.heap.size,2,none⟩=some (.int .i64 n.t)∧w'.cell? ⟨w.heap.size,3,none⟩=some (.int .i64 n.b)∧(loadCellsFrom ⟨w.heap.size,0,none⟩ 0 mm #[]).run Tryz.prog w' = .ok (na n) w'):=qh fun w' h'=>⟨(HA.out w' h').cells.1,tt.cell_at (HR.out w' h') 1 _ rfl,tt.cell_at (HR.out w' h') 2 _ rfl,tt.cell_at (HR.out w' h') 3 _ rfl,hld _ _ _ (HR.out w' h')⟩
 have HM:Hid (∀ w',wb.grownBy w' none→_):=qh fun w' h'=>tt.nmay_any n w' ((hK.grown hgb).grown h')
 have HD:Hid (∀ w',wb.grownBy w' none→_):=qh fun w' h'=>isData_any (HA.out w' h') n.b
 have HG:=qh hgb
 obtain ⟨dat,hdat⟩:∃ d,d=c.data:=⟨_,rfl⟩
 rw [← hdat] at HD
 rw [tt.yes_of ho] at HM
 rw [decide_eq_false (p:=fits c n∧n.t=-1) (fun e=>hf e.1.2.1.1)]
 have e1:(n.t == -1)=true:=by simpa using ht
 have e2:decide (n.f < c.co)=false:=decide_eq_false hf
 clear A hK hgb hbx hld hdat ho ht hf
 go_enter Tryz.func34,Tryz.ntmps34
 go_wp2_with fail
 rw [HTT.out]
 refine wp_region_held_drew (S:=fun w'=>wb.grownBy w' none) (by kernel_rfl) (tt.grown_drew (grown_refl _ _)) (fun hHeld=>?_)
 generalize wb.drew=wd at hHeld ⊢
 refine tl 0 ?_ rfl ?_ ?_ ?_
 (rotate_left;(next=>((intro w0 hSw;obtain ⟨hs1,hs2,hs3,hs4,hs5⟩:=HK.out w0 hSw;go_simp);try (with_reducible rfl)));next=>rfl)
 try simp only [lay]
 refine rd 1 rfl fun K hK=>?_
 go_simp
 (with_reducible refine (HM.out _ hHeld).mono ?_);rintro e w5 ⟨rfl,hg5⟩
 go_wp2_with fail
 refine hK.out _ _ (grown_trans hHeld hg5) (fun hHeld=>?_)
 clear hK K
 try simp only [lay]
 refine tl 2 ?_ rfl ?_ ?_ (tl 3 ?_ rfl ?_ ?_ (tl 4 ?_ rfl ?_ ?_ (tl 5 ?_ rfl ?_ ?_ (tl 6 ?_ rfl ?_ ?_ (tl 7 ?_ rfl ?_ ?_ (tl 8 ?_ rfl ?_ ?_ (tl 9 ?_ rfl ?_ ?_ ?_)))))))
 iterate 8 (rotate_left;(next=>(try simp only [lay]);((intro w0 hSw;obtain ⟨hs1,hs2,hs3,hs4,hs5⟩:=HK.out w0 hSw;go_simp);try (with_reducible rfl)));next=>rfl)
 try simp only [lay]
 refine tl 10 ?_ rfl ?_ ?_ (tl 11 ?_ rfl ?_ ?_ (tl 12 ?_ rfl ?_ ?_ (tl 13 ?_ rfl ?_ ?_ (tl 14 ?_ rfl ?_ ?_ (tl 15 ?_ rfl ?_ ?_ (tl 16 ?_ rfl ?_ ?_ (tl 17 ?_ rfl ?_ ?_ ?_)))))))
 iterate 8 (rotate_left;(next=>(try simp only [lay]);((intro w0 hSw;obtain ⟨hs1,hs2,hs3,hs4,hs5⟩:=HK.out w0 hSw;go_simp);try (with_reducible rfl)));next=>rfl)
 try simp only [lay]
 refine tu 18 rfl ?_
 try simp only [lay]
 refine tu 19 rfl ?_
 try simp only [lay]
 refine tu 20 rfl ?_
 try simp only [lay]
 refine tu 21 rfl ?_
 try simp only [lay]
 refine tl 22 ?_ rfl ?_ ?_ (tl 23 ?_ rfl ?_ ?_ ?_)
 iterate 2 (rotate_left;(next=>(try simp only [lay]);((intro w0 hSw;go_simp);try (with_reducible rfl)));next=>rfl)
 try simp only [lay]
 refine wpAnyH_done (by kernel_rfl) ?_ _
 have HF:=qh hHeld
 go_wp2_with fail
 go_ret
 exact ⟨rfl,grown_trans HG.out HF.out⟩
theorem hfits_d (A:HomeAt w h c F H) (hK:tt.TabK w) (n:Nt) (ho:n.ok) (ht:n.t=-1) (hf:n.f < c.co):Calls Tryz.prog 34 #[.pointer (some ⟨h,0,none⟩),.agg (na n)] w fun e w'=>e = .returned (.bool (decide (fits c n∧n.t=-1)))∧w.grownBy w' none:=by
 obtain ⟨wb,hwb⟩:∃ wb,w.alloc (.cells (na n) 45)=wb:=⟨_,rfl⟩
 have hgb:w.grownBy wb none:=by rw [← hwb];exact grown_alloc (grown_refl _ _) _
 have HA:Hid (∀ w',wb.grownBy w' none→HomeAt w' h c F H):=qh fun w' h'=>A.grown (grown_trans hgb h')
 obtain ⟨t',mm,HTT,hagg,hsize,hld⟩:=tt.named
 have hbx:wb.heap[w.heap.size]?=some (.cells (na n) 45 (0,0)):=by rw [← hwb];exact heap_alloc_new _ _
 have HR:Hid (∀ w',wb.grownBy w' none→w'.rangeAt w.heap.size 0 (nt n)):=qh fun w' h=>tt.range_grown (tt.range_of hbx) h (by simp)
 have HK:Hid (∀ w',wb.grownBy w' none→w'.cell? ⟨h,0,none⟩=some (.int .i64 c.co)∧w'.cell? ⟨w.heap.size,1,none⟩=some (.int .i64 n.f)∧w'.cell? ⟨w.heap.size,2,none⟩=some (.int .i64 n.t)∧w'.cell? ⟨w.heap.size,3,none⟩=some (.int .i64 n.b)∧(loadCellsFrom ⟨w.heap.size,0,none⟩ 0 mm #[]).run Tryz.prog w' = .ok (na n) w'):=qh fun w' h'=>⟨(HA.out w' h').cells.1,tt.cell_at (HR.out w' h') 1 _ rfl,tt.cell_at (HR.out w' h') 2 _ rfl,tt.cell_at (HR.out w' h') 3 _ rfl,hld _ _ _ (HR.out w' h')⟩
 have HM:Hid (∀ w',wb.grownBy w' none→_):=qh fun w' h'=>tt.nmay_any n w' ((hK.grown hgb).grown h')
 have HD:Hid (∀ w',wb.grownBy w' none→_):=qh fun w' h'=>isData_any (HA.out w' h') n.b
 have HG:=qh hgb
 obtain ⟨dat,hdat⟩:∃ d,d=c.data:=⟨_,rfl⟩
 rw [← hdat] at HD
 rw [tt.yes_of ho] at HM
 have hb0:=ho.2.1.1
 have hco:1 ≤ c.co:=(tt.hb_bounds (A.inv.may.1 0 (by omega))).1
 have he:decide (fits c n∧n.t=-1)=decide (0 ≤ n.b∧n.b < dat):=by
  rw [hdat]
  exact decide_eq_decide.2 ⟨fun e=>⟨hb0,e.1.2.2⟩,fun e=>⟨⟨ho,⟨hf,by omega⟩,e.2⟩,ht⟩⟩
 rw [he]
 have e1:(n.t == -1)=true:=by simpa using ht
 have e2:decide (n.f < c.co)=true:=decide_eq_true hf
 clear he hb0 hco
 clear A hK hgb hbx hld hdat ho ht hf
 go_enter Tryz.func34,Tryz.ntmps34
 go_wp2_with fail
 rw [HTT.out]
 refine wp_region_held_drew (S:=fun w'=>wb.grownBy w' none) (by kernel_rfl) (tt.grown_drew (grown_refl _ _)) (fun hHeld=>?_)
 generalize wb.drew=wd at hHeld ⊢
 refine tl 0 ?_ rfl ?_ ?_ ?_
 (rotate_left;(next=>((intro w0 hSw;obtain ⟨hs1,hs2,hs3,hs4,hs5⟩:=HK.out w0 hSw;go_simp);try (with_reducible rfl)));next=>rfl)
 try simp only [lay]
 refine rd 1 rfl fun K hK=>?_
 go_simp
 (with_reducible refine (HM.out _ hHeld).mono ?_);rintro e w5 ⟨rfl,hg5⟩
 go_wp2_with fail
 refine hK.out _ _ (grown_trans hHeld hg5) (fun hHeld=>?_)
 clear hK K
 try simp only [lay]
 refine tl 2 ?_ rfl ?_ ?_ (tl 3 ?_ rfl ?_ ?_ (tl 4 ?_ rfl ?_ ?_ (tl 5 ?_ rfl ?_ ?_ (tl 6 ?_ rfl ?_ ?_ (tl 7 ?_ rfl ?_ ?_ (tl 8 ?_ rfl ?_ ?_ ?_))))))
 iterate 7 (rotate_left;(next=>(try simp only [lay]);((intro w0 hSw;obtain ⟨hs1,hs2,hs3,hs4,hs5⟩:=HK.out w0 hSw;go_simp);try (with_reducible rfl)));next=>rfl)
 try simp only [lay]
 refine tl 9 ?_ rfl ?_ ?_ (tl 10 ?_ rfl ?_ ?_ (tl 11 ?_ rfl ?_ ?_ (tl 12 ?_ rfl ?_ ?_ (tl 13 ?_ rfl ?_ ?_ (tl 14 ?_ rfl ?_ ?_ (tl 15 ?_ rfl ?_ ?_ ?_))))))
 iterate 7 (rotate_left;(next=>(try simp only [lay]);((intro w0 hSw;obtain ⟨hs1,hs2,hs3,hs4,hs5⟩:=HK.out w0 hSw;go_simp);try (with_reducible rfl)));next=>rfl)
 try simp only [lay]
 refine tl 16 ?_ rfl ?_ ?_ (tl 17 ?_ rfl ?_ ?_ (tl 18 ?_ rfl ?_ ?_ (tl 19 ?_ rfl ?_ ?_ (tl 20 ?_ rfl ?_ ?_ ?_))))
 iterate 5 (rotate_left;(next=>(try simp only [lay]);((intro w0 hSw;obtain ⟨hs1,hs2,hs3,hs4,hs5⟩:=HK.out w0 hSw;go_simp);try (with_reducible rfl)));next=>rfl)
 try simp only [lay]
 refine rd 21 rfl fun K hK=>?_
 go_simp
 (with_reducible refine (HD.out _ hHeld).mono ?_);rintro e w5 ⟨rfl,rfl⟩
 go_wp2_with fail
 refine hK.out _ _ hHeld (fun hHeld=>?_)
 clear hK K
 try simp only [lay]
 refine tl 22 ?_ rfl ?_ ?_ (tl 23 ?_ rfl ?_ ?_ ?_)
 iterate 2 (rotate_left;(next=>(try simp only [lay]);((intro w0 hSw;go_simp);try (with_reducible rfl)));next=>rfl)
 try simp only [lay]
 refine wpAnyH_done (by kernel_rfl) ?_ _
 have HF:=qh hHeld
 go_wp2_with fail
 go_ret
 exact ⟨by show Ending.returned (.bool (decide (0 ≤ n.b) && decide (n.b < dat)))=_;rw [Bool.decide_and],grown_trans HG.out HF.out⟩
theorem hfits_any (A:HomeAt w h c F H) (hK:tt.TabK w) (n:Nt):Calls Tryz.prog 34 #[.pointer (some ⟨h,0,none⟩),.agg (na n)] w fun e w'=>e = .returned (.bool (decide (fits c n∧n.t=-1)))∧w.grownBy w' none:=by
 by_cases ho:n.ok
 ·by_cases ht:n.t=-1
  ·by_cases hf:n.f < c.co
   ·exact hfits_d A hK n ho ht hf
   ·exact hfits_c A hK n ho ht hf
  ·exact hfits_b A hK n ho ht
 ·exact hfits_a A hK n ho
end
end Go.Proofs.YtenhdijbcdkfbaaGreatDoor.hh
namespace Go.Proofs.YtenhdijbcdkfbaaGreatDoor.hh
set_option linter.unusedVariables false
set_option linter.unusedSimpArgs false
set_option maxRecDepth 1000000
set_option maxHeartbeats 16000000
open Go Go.ChangeShapes Go.WideShapes Go.ChangeAt Go.RowKit
open Go.Proofs.YtenhdijbcdkfbaaGreatDoor.tt (flat)
open Go.Proofs.YtenhdijbcdkfbaaGreatDoor.en (En free)
theorem make2_at {P:Program} {w:World} {ops:Array Oper} {rest:List Oper} {a:Act} {Q:Exit→Act→World→Prop} {dst:Option Tmp} {ty:TypeId} {pos:String} {after:Array Edge}
  (t e:TypeId) (i:TypeInfo) (z:Value) (z0:En) (l c:Tmp) (n:Nat) (ht:P.underlying t=some (.slice e)) (hi:P.info? e=some i) (hz:i.zero=some z) (h1:i.size=2) (hc:z.cells=(et z0).toArray)
  (el:a.eval (.tmp l) = .int .i64 (n:Int)) (ec:a.eval (.tmp c) = .int .i64 (n:Int)) (hb:(i.bytes:Int) * (n:Int) ≤ 281474976710656) (h63:(n:Int) ≤ 9223372036854775807)
  (cs:List Value) (hcs:cs=flat et (List.replicate n z0)) (h:wpList P ops Q rest (a.put dst (.slice (some ⟨w.heap.size,0,none⟩) n n)) (w.alloc (.cells cs.toArray e))):wpList P ops Q (⟨dst,.makeSlice t (.tmp l) (.tmp c),ty,pos,after,none⟩ :: rest) a w:=by
 subst hcs
 refine wpList_plain rfl fun K hK'=>?_
 have hrun:=run_make (P:=P) w t e i z ht hi hz .i64 .i64 n n (by omega) (Int.le_refl _) hb h63
 have hm:madeCells z.cells ((n:Int).toNat * i.size)=(flat et (List.replicate n z0)).toArray:=by
  rw [h1,hc,Int.toNat_natCast]
  apply Array.ext
  ·simp [madeCells,tt.flat_len et_len]
  ·intro k h1 h2
   have hk:k < n * 2:=by simpa [madeCells] using h1
   obtain ⟨z',hz'⟩:∃ z',(et z0)[k % 2]?=some z':=⟨_,List.getElem?_eq_getElem (by rw [et_len];omega)⟩
   have:=tt.flat_at et_len (List.replicate n z0) (k / 2) z0 (k % 2) z' (by rw [List.getElem?_replicate,if_pos (by omega)]) hz'
   rw [show k / 2 * 2 + k % 2=k by omega] at this
   have e1:(flat et (List.replicate n z0)).toArray[k]=z':=by
    have:=(List.getElem?_eq_some_iff.1 this).2
    simpa using this
   rw [e1]
   have:k % 2 < 2:=Nat.mod_lt _ (by decide)
   simp [madeCells,et_len]
   rw [hz'];rfl
 rw [hm,Int.toNat_natCast] at hrun
 unfold Oper.wp
 simp [execOp,el,ec,hrun,Result.andThen]
 exact hK' _ _ h
theorem run_copy2 {P:Program} (w:World) (dT sT ty elem:TypeId) (g o dLen dCap:Nat) (a:Addr) (sLen sCap:Nat) (cur:Array Value) (t:TypeId) (m:Nat) (cs:List Value)
  (hu:P.underlying dT=some (.slice elem)) (hs:(P.info? elem).map (·.size)=some 2)
  (hg:w.heap[g]?=some (.cells cur t (0,0))) (hn:m=Nat.min sLen dLen) (hm:cs.length=m * 2)
  (hsrc:∀ (j:Nat) v,cs[j]?=some v→w.cell? (a.add j)=some v) (hfit:o + cs.length ≤ cur.size) (h1:∀ v ∈ cs,v.oneCell'=true) :
  (Builtin.copy_ #[dT,sT] ty #[.slice (some ⟨g,o,none⟩) dLen dCap,.slice (some a) sLen sCap]).run P w =
   .ok (goInt m) (w.setRow g (cur.toList.take o ++ cs ++ cur.toList.drop (o + cs.length)).toArray):=by
 have hl:=run_loadCells_list (P:=P) w a cs hsrc
 have hst:=run_storeCells_at P g o t cs 0 cur w hg (by simpa using hfit) h1
 rw [hm] at hl
 cases hq:P.info? elem with
 | none=>simp [hq] at hs
 | some i=>
  have hi:i.size=2:=by simpa [hq] using hs
  simp [Builtin.copy_,run_underlying hu,Builtin.lenOf,Builtin.firstCells,sizeOf,typeInfo,hq,hi,← hn,hl,hst]
theorem step_copy2 {w:World} {ops:Array Oper} {o:Oper} {a:Act} {K:Act→World→Prop} {Q:Exit→Act→World→Prop} {E:Prop} (hgd:o.guard=none) (d s:Operand)
  (ho:o.op = .call { callee:= .builtin .copy,args:=#[d,s],argTypes:=#[52,52] }) (g off dl dc sl sc:Nat) (cur:Array Value) (m:Nat) (cs:List Value)
  (hd:a.eval d = .slice (some ⟨g,off,none⟩) dl dc) (hs:a.eval s = .slice (some ⟨g,0,none⟩) sl sc) (hg:w.heap[g]?=some (.cells cur 58 (0,0))) (hn:m=Nat.min sl dl) (hm:cs.length=m * 2)
  (hsrc:∀ (j:Nat) v,cs[j]?=some v→cur[j]?=some v) (hfit:off + cs.length ≤ cur.size) (h1:∀ v ∈ cs,v.oneCell'=true) (new:List Value) (hnew:new=cur.toList.take off ++ cs ++ cur.toList.drop (off + cs.length))
  (h:K (a.put o.dst (.int .i64 (m:Int))) (w.setRow g new.toArray)) :
  if Region.wanted o (yielded ops a.tmps)=true then Oper.wp Tryz.prog o a w K Q else E:=by
 subst hnew
 have hw:Region.wanted o (yielded ops a.tmps)=true:=by simp [Region.wanted,hgd]
 rw [if_pos hw]
 have hrun:=run_copy2 (P:=Tryz.prog) w 52 52 o.type 58 g off dl dc ⟨g,0,none⟩ sl sc cur 58 m cs Tryz.underlying52 (by kernel_rfl) hg hn hm (fun j v hv=>by
  rw [pp.add_lit,Nat.zero_add,cell_of_row _ _ j _ _ _ hg];exact hsrc j v hv) hfit h1
 unfold Oper.wp execOp
 simp only [ho,resolve,invoke,builtin,Sem.run_bind,Sem.run_pure,Result.andThen_ok,List.map_toArray,List.map_cons,List.map_nil,hd,hs,hrun]
 exact h
theorem copy2_at {w:World} {ops:Array Oper} {rest:List Oper} {a:Act} {Q:Exit→Act→World→Prop} {dst:Option Tmp} {ty:TypeId} {pos:String} {after:Array Edge} (d s:Tmp)
  (g off dl dc g2 sl sc:Nat) (cur:Array Value) (m:Nat) (cs:List Value)
  (hd:a.eval (.tmp d) = .slice (some ⟨g,off,none⟩) dl dc) (hs:a.eval (.tmp s) = .slice (some ⟨g2,0,none⟩) sl sc) (hg:w.heap[g]?=some (.cells cur 58 (0,0))) (hn:m=Nat.min sl dl) (hm:cs.length=m * 2)
  (hsrc:∀ (j:Nat) v,cs[j]?=some v→w.cell? ⟨g2,j,none⟩=some v) (hfit:off + cs.length ≤ cur.size) (h1:∀ v ∈ cs,v.oneCell'=true) (new:List Value) (hnew:new=cur.toList.take off ++ cs ++ cur.toList.drop (off + cs.length))
  (h:wpList Tryz.prog ops Q rest (a.put dst (.int .i64 (m:Int))) (w.setRow g new.toArray)) :
  wpList Tryz.prog ops Q (⟨dst,.call { callee:= .builtin .copy,args:=#[.tmp d,.tmp s],argTypes:=#[52,52] },ty,pos,after,none⟩ :: rest) a w:=by
 subst hnew
 refine wpList_plain rfl fun K hK'=>?_
 have hrun:=run_copy2 (P:=Tryz.prog) w 52 52 ty 58 g off dl dc ⟨g2,0,none⟩ sl sc cur 58 m cs Tryz.underlying52 (by kernel_rfl) hg hn hm (fun j v hv=>by
  rw [pp.add_lit,Nat.zero_add];exact hsrc j v hv) hfit h1
 unfold Oper.wp execOp
 simp only [resolve,invoke,builtin,Sem.run_bind,Sem.run_pure,Result.andThen_ok,List.map_toArray,List.map_cons,List.map_nil,hd,hs,hrun]
 exact hK' _ _ h
def zen:En:=⟨0,0⟩
def rpl (x:En) (k n:Nat):List En:=List.replicate k x ++ List.replicate (n - k) zen
theorem rpl_len (x:En) (k n:Nat) (h:k ≤ n):(rpl x k n).length=n:=by simp [rpl];omega
theorem rpl_next (x:En) (k n c:Nat) (h:k ≤ n) (hc:k + c ≤ n):(rpl x k n).take k ++ List.replicate c x ++ (rpl x k n).drop (k + c)=rpl x (k + c) n:=by
 unfold rpl
 rw [List.take_left' (by simp),List.drop_append,List.length_replicate,List.drop_replicate,List.drop_replicate,show k - (k + c)=0 by omega,show n - k - (k + c - k)=n - (k + c) by omega]
 simp [← List.replicate_append_replicate]
def rep2 (x:En) (k n:Nat):List Value:=flat et (rpl x k n)
theorem rep2_len (x:En) (k n:Nat) (h:k ≤ n):(rep2 x k n).length=n * 2:=by unfold rep2;rw [tt.flat_len et_len,rpl_len _ _ _ h]
theorem rep2_next (x:En) (k n c:Nat) (h:k ≤ n) (hc:k + c ≤ n):(rep2 x k n).take (k * 2) ++ flat et (List.replicate c x) ++ (rep2 x k n).drop (k * 2 + c * 2)=rep2 x (k + c) n:=by
 have hl:=rpl_len x k n h
 unfold rep2
 rw [← Nat.add_mul,tt.flat_take et_len _ _ (by omega),tt.flat_drop et_len _ _ (by omega),← tt.flat_append,← tt.flat_append,rpl_next _ _ _ _ h hc]
theorem rep2_get (x:En) (k n c j:Nat) (hc:c ≤ k) (v:Value) (hv:(flat et (List.replicate c x))[j]?=some v):(rep2 x k n)[j]?=some v:=by
 have e:rep2 x k n=flat et (List.replicate c x) ++ flat et (List.replicate (k - c) x ++ List.replicate (n - k) zen):=by
  unfold rep2 rpl
  rw [← tt.flat_append,← List.append_assoc,List.replicate_append_replicate,show c + (k - c)=k by omega]
 rw [e,List.getElem?_append_left (List.getElem?_eq_some_iff.1 hv).1];exact hv
theorem rep2_full (x:En) (n:Nat):rep2 x n n=flat et (List.replicate n x):=by simp [rep2,rpl]
theorem et_flat_one (x:En) (n:Nat):(flat et (List.replicate n x)).length=n * 2:=by rw [tt.flat_len et_len,List.length_replicate]
theorem infoEn:(Tryz.prog.info? 58).map (fun i=>(i.zero,i.size,i.bytes))=some (some (.agg (et zen).toArray),2,16):=by kernel_rfl
theorem repeat_any (x:En) (n:Nat) (h1:1 ≤ n) (h2:n ≤ 256) (w:World) (g:Nat) (hg:w.heap[g]?=some (.cells (et x).toArray 58 (0,0))) :
  Calls Tryz.prog 29 #[.slice (some ⟨g,0,none⟩) 1 1,.int .i64 (n:Int)] w fun e w'=>e = .returned (.slice (some ⟨w.heap.size,0,none⟩) n n)∧w'.heap[w.heap.size]?=some (.cells (rep2 x n n).toArray 58 (0,0))∧w.grownBy w' none:=by
 obtain ⟨i0,hi,hz0,hz1,hz2⟩:=info_parts infoEn
 have HM:=qh (pp.mul_any n h2 w)
 have hcell:∀ (j:Nat) v,(et x)[j]?=some v→w.cell? ⟨g,j,none⟩=some v:=fun j v hv=>by simp [World.cell?,hg,hv]
 have HC0:=qh hcell
 have HG:=qh hg
 have hgl:g < w.heap.size:=(Array.getElem?_eq_some_iff.1 hg).1
 have hr0:rep2 x 0 n=flat et (List.replicate n zen):=by simp [rep2,rpl]
 have hz:(rep2 x 0 n).length=n * 2:=rep2_len x 0 n (Nat.zero_le _)
 have HR0:=qh hr0
 have HZ:=qh hz
 clear hg hr0 hz hcell
 go_enter Tryz.func29,Tryz.ntmps29
 go_wp2_with (first
  | (go_at_call 57;((with_reducible refine HM.out.mono ?_);rintro e w' ⟨rfl,rfl⟩))
  | ((with_reducible refine make2_at 52 58 i0 (.agg (et zen).toArray) zen 29 29 n Tryz.underlying52 hi hz0 hz1 ?_ ?_ ?_ ?_ ?_ (rep2 x 0 n) ?_ ?_);(rfl);(rfl);(rfl);(rw [hz2];omega);(omega);(exact HR0.out))
  | ((with_reducible refine copy2_at 31 32 w.heap.size 0 n n g 1 1 (rep2 x 0 n).toArray 1 (et x) ?_ ?_ ?_ ?_ ?_ ?_ ?_ ?_ (rep2 x 1 n) ?_ ?_);(rfl);(rfl);(exact heap_alloc_new _ _);(show (1:Nat)=min 1 n;omega);(rfl);(intro j v hv;(rw [World.cell?_alloc_lt _ _ _ hgl]);exact HC0.out j v hv);(simp [HZ.out,et_len];omega);(exact et_one x);(have:=rep2_next x 0 n 1 (Nat.zero_le _) (by omega);simpa [tt.flat_single,et_len] using this.symm);(rw [World.setRow_alloc_new])))
 go_loopw [8] (fun i wr=>∃ k:Nat,k ≤ n∧1 ≤ k∧i = .int .i64 (k:Int)∧wr.heap[w.heap.size]?=some (.cells (rep2 x k n).toArray 58 (0,0))∧w.grownBy wr none) (fun i _=>n - (intOf i).toNat)
 case atStart=>exact ⟨1,h1,Nat.le_refl _,rfl,heap_alloc_new _ _,World.grownBy_alloc _ _ none⟩
 case round=>
  obtain ⟨k,hk,hk1,rfl,hblk,hgr⟩:=hrel
  by_cases hlt:k < n
  ·have HB:=qh hblk
   have HGR:=qh hgr
   have hnk:¬ n=k:=by omega
   have hc:∃ c,c=min k (n - k)∧k + c ≤ n∧1 ≤ c:=⟨_,rfl,by omega,by omega⟩
   obtain ⟨c,hc1,hc2,hc3⟩:=hc
   have HC:=qh hc1
   have hwr:IntKind.i64.wrap ((k:Int) + (c:Int))=(k:Int) + (c:Int):=by simp [IntKind.wrap,IntKind.bits,IntKind.signed];omega
   clear hblk hgr hc1
   go_wp2_with fail
   go_region_law (refine step_copy2 rfl (.tmp 41) (.tmp 44) rfl w.heap.size (k * 2) (n - k) (n - k) k n (rep2 x k n).toArray c (flat et (List.replicate c x)) (by simp [Act.eval,Act.put]) (by simp [Act.eval,Act.put]) HB.out HC.out (et_flat_one x c) (by intro j v hv;rw [List.getElem?_toArray];exact rep2_get x k n c j (by have:=HC.out;omega) v hv) (by simp [rep2_len _ _ _ hk,et_flat_one];omega) (tt.flat_one et_one _) (rep2 x (k + c) n) (by rw [et_flat_one];exact (rep2_next x k n c hk hc2).symm) ?_)
   simp [Act.put]
   go_wp2_with fail
   go_roundw
   case rel=>exact ⟨k + c,hc2,by omega,by simp,setRow_heap _ _ _ _ _ _ (show wr.drew.heap[w.heap.size]?=_ from HB.out),⟨HGR.out.os,HGR.out.tape,HGR.out.output,by have:=HGR.out.size;simp at this ⊢;omega,fun j hj hn=>(setRow_other _ _ _ _ (by omega)).trans (HGR.out.block j hj hn)⟩⟩
   case measure=>simp [intOf];omega
  ·have hkn:k=n:=by omega
   subst hkn
   have HB:=qh hblk
   have HGR:=qh hgr
   clear hblk hgr
   go_wp2_with fail
   go_ret
   exact ⟨rfl,HB.out,HGR.out⟩
end Go.Proofs.YtenhdijbcdkfbaaGreatDoor.hh
