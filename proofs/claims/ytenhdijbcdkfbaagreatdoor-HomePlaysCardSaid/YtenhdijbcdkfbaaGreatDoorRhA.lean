/-
 Where the document's own home lies: its plan, its memory, its entries, its jobs, who waits; what a call on it leaves alone; what single writes make of it. No condition but the bounds that each theorem names.
-/
import Derived.Test.YtenhdijbcdkfbaaGreatDoorTl
import Derived.Test.YtenhdijbcdkfbaaGreatDoorHc
import Derived.Test.YtenhdijbcdkfbaaGreatDoorMf
namespace Go.Proofs.YtenhdijbcdkfbaaGreatDoor.tt
set_option linter.unusedVariables false
set_option linter.unusedSimpArgs false
set_option maxRecDepth 1000000
set_option maxHeartbeats 16000000
open Go Go.ChangeShapes Go.WideShapes Go.ChangeAt Go.RowKit
theorem sl_put {α:Type} {f:α→List Value} {s:Nat} (hf:∀ x,(f x).length=s) (hs:0 < s) {w:World} {e:TypeId} {g off cap n:Nat} {xs:List α} (h:Sl w e s (.slice (some ⟨g,off,none⟩) n cap) xs.length (flat f xs)) {b:Nat} (hb:b < xs.length) (x:α) :
  Sl (w.setCells g (off + b * s) (f x)) e s (.slice (some ⟨g,off,none⟩) n cap) (xs.set b x).length (flat f (xs.set b x))∧w.grownBy (w.setCells g (off + b * s) (f x)) (some g):=by
 refine ⟨?_,grown_setCells w g _ _⟩
 rcases h with ⟨e1,_⟩ | ⟨g',off',cap',cur,e1,hcur,h1,h2,h3,h4,h5⟩
 ·cases e1
 cases e1
 have hbc:b * s + s ≤ cap * s:=by
  have:=Nat.mul_le_mul_right s (show b + 1 ≤ cap by omega)
  rwa [Nat.succ_mul] at this
 obtain ⟨cur',q1,q2,q3,q4⟩:=heap_setCells g e (f x) (off + b * s) w cur hcur (by rw [hf];omega)
 refine .inr ⟨g,off,cap,cur',by rw [List.length_set],q1,by rw [flat_len hf],by rw [List.length_set];exact h2,h3,by omega,fun k y hk=>?_⟩
 have hk':k < (xs.set b x).length * s:=by rw [← flat_len hf];exact (List.getElem?_eq_some_iff.1 hk).1
 have hd:k / s < (xs.set b x).length:=(Nat.div_lt_iff_lt_mul hs).2 hk'
 have hm:k % s < s:=Nat.mod_lt _ hs
 have hkk:k / s * s + k % s=k:=Nat.div_add_mod' k s
 obtain ⟨z,hz⟩:∃ z,(xs.set b x)[k / s]?=some z:=⟨_,List.getElem?_eq_getElem hd⟩
 obtain ⟨u,hu⟩:∃ u,(f z)[k % s]?=some u:=⟨_,List.getElem?_eq_getElem (by rw [hf];exact hm)⟩
 have hyu:=flat_at hf _ _ z _ u hz hu
 rw [hkk,hk] at hyu
 cases hyu
 by_cases hkb:k / s=b
 ·have hzx:z=x:=by rw [hkb,List.getElem?_set_self hb] at hz;exact (Option.some.inj hz).symm
  subst hzx
  have:=q4 (k % s) y hu
  rw [hkb] at hkk
  rw [show off + b * s + k % s=off + k by omega] at this
  exact this
 ·rw [List.getElem?_set_ne (fun e=>hkb e.symm)] at hz
  have hfar:off + k < off + b * s ∨ off + b * s + (f x).length ≤ off + k:=by
   rw [hf]
   rcases Nat.lt_or_gt_of_ne hkb with hl | hl
   ·have:=Nat.mul_le_mul_right s (show k / s + 1 ≤ b from hl)
    rw [Nat.succ_mul] at this
    omega
   ·have:=Nat.mul_le_mul_right s (show b + 1 ≤ k / s from hl)
    rw [Nat.succ_mul] at this
    omega
  rw [q3 (off + k) hfar]
  refine h5 k y ?_
  have:=flat_at hf _ _ z _ y hz hu
  rwa [hkk] at this
end Go.Proofs.YtenhdijbcdkfbaaGreatDoor.tt
namespace Go.Proofs.YtenhdijbcdkfbaaGreatDoor.hh
set_option linter.unusedVariables false
set_option linter.unusedSimpArgs false
set_option maxRecDepth 1000000
set_option maxHeartbeats 16000000
open Go Go.ChangeShapes Go.WideShapes Go.ChangeAt Go.RowKit
open Go.Proofs.YtenhdijbcdkfbaaGreatDoor.tt (Nt Cfg fits net bare zd usd uses coreOf ok_ends flat na nt zn grown_alloc grown_refl grown_trans tyne lt_of)
open Go.Proofs.YtenhdijbcdkfbaaGreatDoor.en (En gets back asked asks free ask_parts may_parts)
open Go.Proofs.YtenhdijbcdkfbaaGreatDoor.mm (wi wo ones wo_lt)
def jt (o:Option Jb):List Value:=
 match o with
 | none=> .bool false :: (nt zn ++ [.int .u32 0,.bool false,.bool false,.int .u64 0])
 | some j=> .bool true :: (nt j.a ++ [.int .u32 (j.w:Int),.bool j.d,.bool j.r,.int .u64 j.l])
theorem jt_len (o:Option Jb):(jt o).length=29:=by
 cases o <;> simp [jt,tt.nt_len]
theorem jt_one (o:Option Jb):∀ v ∈ jt o,v.oneCell'=true:=fun v hv=>by
 cases o with
 | none=>
  rcases List.mem_cons.1 hv with rfl | hv
  ·rfl
  rcases List.mem_append.1 hv with hv | hv
  ·exact tt.nt_one _ v hv
  ·simp at hv;rcases hv with rfl | rfl | rfl <;> rfl
 | some j=>
  rcases List.mem_cons.1 hv with rfl | hv
  ·rfl
  rcases List.mem_append.1 hv with hv | hv
  ·exact tt.nt_one _ v hv
  ·simp at hv;rcases hv with rfl | rfl | rfl | rfl <;> rfl
structure Fr where
 mb:Nat
 mv:Value
 ev:Value
 jv:Value
 wv:Value
def Fr.own (F:Fr) (h i:Nat):Prop:=i=h ∨ F.mv.ownBlock=some i ∨ F.ev.ownBlock=some i ∨ F.jv.ownBlock=some i
def Fr.cells (F:Fr) (c:Cfg):Array Value:=#[.int .i64 c.co,.int .i64 c.se,.int .i64 c.wa,.int .i64 c.bl,.int .i64 c.lo,.int .i64 c.ba,.int .i64 c.ne,.int .i64 c.tr,.pointer (some ⟨F.mb,0,none⟩),F.ev,F.jv,F.wv]
structure RefAt (w:World) (h:Nat) (c:Cfg) (F:Fr) (H:Hm):Prop where
 blk:w.heap[h]?=some (.cells (F.cells c) 55 (0,0))
 mem:pp.RMem w F.mb F.mv H.mm
 ent:tt.Sl w 58 2 F.ev H.en.length (flat et H.en)
 job:tt.Sl w 63 29 F.jv H.jb.length (flat jt H.jb)
 wt:tt.Sl w 45 24 F.wv H.wt.length (flat nt H.wt)
 inv:Inv c H
 low:∀ i,F.own h i→gs ≤ i
structure RDid (w w':World) (h:Nat) (F F':Fr):Prop where
 os:w'.os=w.os
 tape:w'.tape=w.tape
 output:w'.output=w.output
 size:w.heap.size ≤ w'.heap.size
 block:∀ i,i < w.heap.size→¬ F.own h i→w'.heap[i]?=w.heap[i]?
 mb:F'.mb=F.mb
 mv:F'.mv=F.mv
 ev:F'.ev=F.ev
 jv:F'.jv=F.jv
 next:tt.Next w w' F.wv F'.wv
section
variable {w w':World} {h:Nat} {F F':Fr}
theorem RDid.own (d:RDid w w' h F F') (i:Nat):F'.own h i ↔ F.own h i:=by
 unfold Fr.own;rw [d.mv,d.ev,d.jv]
theorem RDid.refl (w:World) (h:Nat) (F:Fr):RDid w w h F F:=⟨rfl,rfl,rfl,Nat.le_refl _,fun _ _ _=>rfl,rfl,rfl,rfl,rfl,.inl rfl⟩
theorem RDid.trans {a b c:World} {F F' F'':Fr} (d:RDid a b h F F') (k:RDid b c h F' F''):RDid a c h F F'':=
 ⟨k.os.trans d.os,k.tape.trans d.tape,k.output.trans d.output,Nat.le_trans d.size k.size,fun i hi hn=>(k.block i (Nat.lt_of_lt_of_le hi d.size) (fun e=>hn ((d.own i).1 e))).trans (d.block i hi hn),k.mb.trans d.mb,k.mv.trans d.mv,k.ev.trans d.ev,k.jv.trans d.jv,by
  rcases k.next with k1 | k1
  ·rcases d.next with h1 | h1
   ·exact .inl (k1.trans h1)
   ·exact .inr fun i hi=>h1 i (k1 ▸ hi)
  ·exact .inr fun i hi=>Nat.le_trans d.size (k1 i hi)⟩
theorem RDid.of_grown (h:Nat) (F:Fr) (g:w.grownBy w' none):RDid w w' h F F:=⟨g.os,g.tape,g.output,g.size,fun k hk _=>g.block k hk (by simp),rfl,rfl,rfl,rfl,.inl rfl⟩
theorem RDid.of_own {own:Option Nat} (g:w.grownBy w' own) (ho:∀ i,own=some i→F.own h i):RDid w w' h F F:=⟨g.os,g.tape,g.output,g.size,fun k hk hn=>g.block k hk (fun e=>hn (ho k e.symm)),rfl,rfl,rfl,rfl,.inl rfl⟩
theorem RDid.heap (d:RDid w w' h F F') {g:Nat} {o:Obj} (hg:w.heap[g]?=some o) (hn:¬ F.own h g):w'.heap[g]?=some o:=(d.block g (lt_of hg) hn).trans hg
theorem RDid.cell (d:RDid w w' h F F') {a:Addr} {u:Value} (hc:w.cell? a=some u) (hn:¬ F.own h a.block):w'.cell? a=some u:=
 (World.cell?_of_block (d.block a.block (World.block_lt_of_cell? w a hc) hn)).trans hc
theorem RDid.sl (d:RDid w w' h F F') {e:TypeId} {s n:Nat} {v:Value} {xs:List Value} (hs:tt.Sl w e s v n xs) (hn:∀ i,v.ownBlock=some i→¬ F.own h i):tt.Sl w' e s v n xs:=hs.of_block fun g hg=>d.block g (hs.lt g hg) (hn g hg)
theorem RDid.after (hg:w.grownBy w' none) {w2:World} (d:RDid w' w2 h F F'):RDid w w2 h F F':=(RDid.of_grown h F hg).trans d
end
section
variable {w w':World} {h:Nat} {c:Cfg} {F F':Fr} {H:Hm}
theorem RefAt.lt (A:RefAt w h c F H):h < w.heap.size:=lt_of A.blk
theorem RefAt.plan (A:RefAt w h c F H):tt.CfgAt w h c:=by
 have hb:=A.blk
 constructor <;> simp [World.cell?,hb,Fr.cells]
theorem RefAt.parts (A:RefAt w h c F H):w.cell? ⟨h,8,none⟩=some (.pointer (some ⟨F.mb,0,none⟩))∧w.cell? ⟨h,9,none⟩=some F.ev∧w.cell? ⟨h,10,none⟩=some F.jv∧w.cell? ⟨h,11,none⟩=some F.wv:=by
 have hb:=A.blk
 refine ⟨?_,?_,?_,?_⟩ <;> simp [World.cell?,hb,Fr.cells]
theorem RefAt.frozen (A:RefAt w h c F H) (j:Nat):w.frozen? ⟨h,j,none⟩=false:=by simp [World.frozen?,A.blk]
theorem RefAt.own_lt (A:RefAt w h c F H) {i:Nat} (hi:F.own h i):i < w.heap.size:=by
 rcases hi with e | e | e | e
 ·rw [e];exact A.lt
 ·obtain ⟨_,hb⟩:=A.mem.bl i e;exact lt_of hb
 ·exact A.ent.lt i e
 ·exact A.job.lt i e
theorem RefAt.not_own (A:RefAt w h c F H) {i:Nat} {cs:Array Value} {t:TypeId} {fr:Nat × Nat} (hi:w.heap[i]?=some (.cells cs t fr)) (h1:t ≠ 55) (h2:t ≠ 41) (h3:t ≠ 58) (h4:t ≠ 63):¬ F.own h i:=by
 rintro (e | e | e | e)
 ·rw [e] at hi;exact tyne hi A.blk h1 rfl
 ·obtain ⟨_,hb⟩:=A.mem.bl i e;exact tyne hi hb h2 rfl
 ·obtain ⟨_,hb⟩:=A.ent.type i e;exact tyne hi hb h3 rfl
 ·obtain ⟨_,hb⟩:=A.job.type i e;exact tyne hi hb h4 rfl
theorem RefAt.mb_own (A:RefAt w h c F H):¬ F.own h F.mb:=A.not_own A.mem.blk (by decide) (by decide) (by decide) (by decide)
theorem rmem_of_block {b:Nat} {v:Value} {bs:List (List Int)} (m:pp.RMem w b v bs) (hb:w'.heap[b]?=w.heap[b]?) (hv:∀ k,v.ownBlock=some k→w'.heap[k]?=w.heap[k]?):pp.RMem w' b v bs:=
 ⟨hb.trans m.blk,m.sl.of_block hv,m.len,m.few⟩
theorem RefAt.keep (A:RefAt w h c F H) (hk:∀ i,i < w.heap.size→(F.own h i ∨ i=F.mb ∨ F.wv.ownBlock=some i)→w'.heap[i]?=w.heap[i]?):RefAt w' h c F H:=
 ⟨(hk h A.lt (.inl (.inl rfl))).trans A.blk,rmem_of_block A.mem (hk _ A.mem.lt (.inr (.inl rfl))) (fun k e=>hk k (A.own_lt (.inr (.inl e))) (.inl (.inr (.inl e)))),
  A.ent.of_block fun k e=>hk k (A.ent.lt k e) (.inl (.inr (.inr (.inl e)))),A.job.of_block fun k e=>hk k (A.job.lt k e) (.inl (.inr (.inr (.inr e)))),A.wt.of_block fun k e=>hk k (A.wt.lt k e) (.inr (.inr e)),A.inv,A.low⟩
theorem RefAt.grown (A:RefAt w h c F H) (hg:w.grownBy w' none):RefAt w' h c F H:=A.keep fun i hi _=>hg.block i hi (by simp)
theorem RefAt.setMem (A:RefAt w h c F H) {mm:List (List Int)} (hM:pp.RMem w' F.mb F.mv mm) (hg:w.grownBy w' F.mv.ownBlock) (hI:Inv c { H with mm:=mm }):RefAt w' h c F { H with mm:=mm }:=by
 have ne:∀ {i:Nat} {cs t fr},w.heap[i]?=some (.cells cs t fr)→t ≠ 41→some i ≠ F.mv.ownBlock:=fun hi ht e=>by
  obtain ⟨_,hb⟩:=A.mem.bl _ e.symm;exact tyne hi hb ht rfl
 exact ⟨(hg.block h A.lt (ne A.blk (by decide))).trans A.blk,hM,
  A.ent.of_block fun k e=>hg.block k (A.ent.lt k e) (by obtain ⟨_,hb⟩:=A.ent.type k e;exact ne hb (by decide)),
  A.job.of_block fun k e=>hg.block k (A.job.lt k e) (by obtain ⟨_,hb⟩:=A.job.type k e;exact ne hb (by decide)),
  A.wt.of_block fun k e=>hg.block k (A.wt.lt k e) (by obtain ⟨_,hb⟩:=A.wt.type k e;exact ne hb (by decide)),hI,A.low⟩
theorem RefAt.setEnt (A:RefAt w h c F H) {g off cap n:Nat} (hv:F.ev = .slice (some ⟨g,off,none⟩) n cap) {b:Nat} (hb:b < H.en.length) (e:En) (hI:Inv c { H with en:=H.en.set b e }) :
  RefAt (w.setCells g (off + b * 2) (et e)) h c F { H with en:=H.en.set b e }∧w.grownBy (w.setCells g (off + b * 2) (et e)) (some g):=by
 have hE:=A.ent
 rw [hv] at hE
 obtain ⟨_,hcur⟩:=hE.type g rfl
 obtain ⟨hs,hg⟩:=tt.sl_put et_len (by decide) hE hb e
 have ne:∀ {i:Nat} {cs t fr},w.heap[i]?=some (.cells cs t fr)→t ≠ 58→some i ≠ some g:=fun hi ht e=>tyne hi hcur ht (Option.some.inj e)
 exact ⟨⟨(hg.block h A.lt (ne A.blk (by decide))).trans A.blk,rmem_of_block A.mem (hg.block _ A.mem.lt (ne A.mem.blk (by decide))) (fun k e=>by obtain ⟨_,hb⟩:=A.mem.bl k e;exact hg.block k (lt_of hb) (ne hb (by decide))),by rw [hv];exact hs,
  A.job.of_block fun k e=>hg.block k (A.job.lt k e) (by obtain ⟨_,hb⟩:=A.job.type k e;exact ne hb (by decide)),
  A.wt.of_block fun k e=>hg.block k (A.wt.lt k e) (by obtain ⟨_,hb⟩:=A.wt.type k e;exact ne hb (by decide)),hI,A.low⟩,hg⟩
theorem RefAt.setJob (A:RefAt w h c F H) {g off cap n:Nat} (hv:F.jv = .slice (some ⟨g,off,none⟩) n cap) {b:Nat} (hb:b < H.jb.length) (o:Option Jb) (hI:Inv c { H with jb:=H.jb.set b o }) :
  RefAt (w.setCells g (off + b * 29) (jt o)) h c F { H with jb:=H.jb.set b o }∧w.grownBy (w.setCells g (off + b * 29) (jt o)) (some g):=by
 have hE:=A.job
 rw [hv] at hE
 obtain ⟨_,hcur⟩:=hE.type g rfl
 obtain ⟨hs,hg⟩:=tt.sl_put jt_len (by decide) hE hb o
 have ne:∀ {i:Nat} {cs t fr},w.heap[i]?=some (.cells cs t fr)→t ≠ 63→some i ≠ some g:=fun hi ht e=>tyne hi hcur ht (Option.some.inj e)
 exact ⟨⟨(hg.block h A.lt (ne A.blk (by decide))).trans A.blk,rmem_of_block A.mem (hg.block _ A.mem.lt (ne A.mem.blk (by decide))) (fun k e=>by obtain ⟨_,hb⟩:=A.mem.bl k e;exact hg.block k (lt_of hb) (ne hb (by decide))),
  A.ent.of_block fun k e=>hg.block k (A.ent.lt k e) (by obtain ⟨_,hb⟩:=A.ent.type k e;exact ne hb (by decide)),by rw [hv];exact hs,
  A.wt.of_block fun k e=>hg.block k (A.wt.lt k e) (by obtain ⟨_,hb⟩:=A.wt.type k e;exact ne hb (by decide)),hI,A.low⟩,hg⟩
theorem RefAt.setWt (A:RefAt w h c F H) {v:Value} {ws:List Nt} (hS:tt.Sl w 45 24 v ws.length (flat nt ws)) (hI:Inv c { H with wt:=ws }) :
  RefAt (w.setCell ⟨h,11,none⟩ v) h c { F with wv:=v } { H with wt:=ws }∧w.grownBy (w.setCell ⟨h,11,none⟩ v) (some h):=by
 have hg:w.grownBy (w.setCell ⟨h,11,none⟩ v) (some h):=tt.grown_setCells w h 11 [v]
 have ne:∀ {i:Nat} {cs t fr},w.heap[i]?=some (.cells cs t fr)→t ≠ 55→some i ≠ some h:=fun hi ht e=>tyne hi A.blk ht (Option.some.inj e)
 refine ⟨⟨?_,rmem_of_block A.mem (hg.block _ A.mem.lt (ne A.mem.blk (by decide))) (fun k e=>by obtain ⟨_,hb⟩:=A.mem.bl k e;exact hg.block k (lt_of hb) (ne hb (by decide))),
  A.ent.of_block fun k e=>hg.block k (A.ent.lt k e) (by obtain ⟨_,hb⟩:=A.ent.type k e;exact ne hb (by decide)),
  A.job.of_block fun k e=>hg.block k (A.job.lt k e) (by obtain ⟨_,hb⟩:=A.job.type k e;exact ne hb (by decide)),
  hS.of_block fun k e=>hg.block k (hS.lt k e) (by obtain ⟨_,hb⟩:=hS.type k e;exact ne hb (by decide)),hI,A.low⟩,hg⟩
 obtain ⟨hlt,hk⟩:=Array.getElem?_eq_some_iff.1 A.blk
 show (w.heap.modify h _)[h]?=_
 rw [Array.getElem?_eq_getElem (by rw [Array.size_modify];exact hlt),Array.getElem_modify_self,hk]
 rfl
theorem RefAt.entGet (A:RefAt w h c F H) {b:Nat} (hb:b < H.en.length):H.en[b]?=some (enOf H b):=by unfold enOf;rw [List.getD_eq_getElem?_getD,List.getElem?_eq_getElem hb];rfl
theorem RefAt.jobGet (A:RefAt w h c F H) {b:Nat} (hb:b < H.jb.length):H.jb[b]?=some (jbOf H b):=by unfold jbOf;rw [List.getD_eq_getElem?_getD,List.getElem?_eq_getElem hb];rfl
theorem RefAt.entAt (A:RefAt w h c F H) {b:Nat} (hb:b < H.en.length):∃ g off cap,F.ev = .slice (some ⟨g,off,none⟩) H.en.length cap∧(∀ j,w.frozen? ⟨g,j,none⟩=false)∧∀ (i:Nat) u,(et (enOf H b))[i]?=some u→w.cell? ⟨g,off + b * 2 + i,none⟩=some u:=by
 rcases A.ent with ⟨_,e0,_⟩ | ⟨g,off,cap,cur,e1,hcur,h1,h2,h3,h4,h5⟩
 ·omega
 refine ⟨g,off,cap,e1,fun j=>by simp [World.frozen?,hcur],fun i u hu=>?_⟩
 have:=h5 _ _ (tt.flat_at et_len _ _ _ i _ (A.entGet hb) hu)
 rw [← Nat.add_assoc] at this
 simp [World.cell?,hcur,this]
theorem RefAt.jobAt (A:RefAt w h c F H) {b:Nat} (hb:b < H.jb.length):∃ g off cap,F.jv = .slice (some ⟨g,off,none⟩) H.jb.length cap∧(∀ j,w.frozen? ⟨g,j,none⟩=false)∧∀ (i:Nat) u,(jt (jbOf H b))[i]?=some u→w.cell? ⟨g,off + b * 29 + i,none⟩=some u:=by
 rcases A.job with ⟨_,e0,_⟩ | ⟨g,off,cap,cur,e1,hcur,h1,h2,h3,h4,h5⟩
 ·omega
 refine ⟨g,off,cap,e1,fun j=>by simp [World.frozen?,hcur],fun i u hu=>?_⟩
 have:=h5 _ _ (tt.flat_at jt_len _ _ _ i _ (A.jobGet hb) hu)
 rw [← Nat.add_assoc] at this
 simp [World.cell?,hcur,this]
end
theorem RDid.tabs {w w':World} {h:Nat} {F F':Fr} (d:RDid w w' h F F') (hl:∀ i,F.own h i→gs ≤ i):(mm.Tab w→mm.Tab w')∧(tt.TabK w→tt.TabK w')∧(tt.Tab w→tt.Tab w'):=by
 have n1:¬ F.own h 2:=fun e=>by have:=hl _ e;unfold gs at this;omega
 have n2:¬ F.own h 1:=fun e=>by have:=hl _ e;unfold gs at this;omega
 have n3:¬ F.own h 0:=fun e=>by have:=hl _ e;unfold gs at this;omega
 exact ⟨fun hT j hj=>d.cell (hT j hj) n1,fun hT j hj=>d.cell (hT j hj) n2,fun hT j hj=>⟨d.cell (hT j hj).1 n3,d.cell (hT j hj).2.1 n3,d.cell (hT j hj).2.2 n3⟩⟩
end Go.Proofs.YtenhdijbcdkfbaaGreatDoor.hh
