/-
 What goes out as a slice; the ask that is written: what stays. Conditions: as NlA names them.
-/
import Derived.Test.YtcoimipgilkmbaaGreatDoorTl
import Derived.Test.YtcoimipgilkmbaaGreatDoorNlG
import Derived.Test.YtcoimipgilkmbaaGreatDoorSl
namespace Go.Proofs.YtcoimipgilkmbaaGreatDoor.nl
set_option linter.unusedVariables false
set_option linter.unusedSimpArgs false
set_option maxRecDepth 1000000
set_option maxHeartbeats 16000000
open Go Go.ChangeShapes Go.WideShapes Go.ChangeAt Go.RowKit Go.Shelf
open Go.Proofs.YtcoimipgilkmbaaGreatDoor.nr
open Go.Proofs.YtcoimipgilkmbaaGreatDoor.tt (Cfg Nt na nt zn bare zd fits row tyne lt_of U Tab TabK grown_refl grown_trans grown_alloc grown_setCells grown_drew grown_drewN yes Sl Next flat)
open Go.Proofs.YtcoimipgilkmbaaGreatDoor.kk (Ln St zl la ln cfind cdrop cuse cgoes cwrite cturn cput setAt setOf live fF Shp Cac Kept)
open Go.Proofs.YtcoimipgilkmbaaGreatDoor.bk (Bk rem kills puts putE fd fl Nd Rg dead fresh BkAt)
open Go.Proofs.YtcoimipgilkmbaaGreatDoor.mrk (Ms rdS wrS meets addE Dom MkAt)
open Go.Proofs.YtcoimipgilkmbaaGreatDoor.de (Dl sT gE rF aD LAt)
open Go.Proofs.YtcoimipgilkmbaaGreatDoor.oo (ref)
theorem infoN:(Tryz.prog.info? 37).map (fun i=>(i.zero,i.size,i.bytes))=some (some (.agg (na zn)),24,112):=by kernel_rfl
theorem zn_cells:(Value.agg (na zn)).cells.size=24:=by rfl
theorem fold_nt (n:Nt):Array.foldl (fun (cs:Array Value) (x:Value × Nat)=>cs.setIfInBounds x.snd x.fst) #[.int .u8 0,.int .i64 0,.int .i64 0,.int .i64 0,.int .u64 0,.int .u8 0,.bool false,.bool false,.int .u32 0,.int .u32 0,.int .u32 0,.int .u32 0,.int .u32 0,.int .u32 0,.int .u32 0,.int .u32 0,.int .u32 0,.int .u32 0,.int .u32 0,.int .u32 0,.int .u32 0,.int .u32 0,.int .u32 0,.int .u32 0] (na n).zipIdx 0 24=na n:=by
 obtain ⟨k,f,t,b,st,s,h,q,d,hd⟩:=n
 match d,hd with
 | [d0,d1,d2,d3,d4,d5,d6,d7,d8,d9,d10,d11,d12,d13,d14,d15],_=>simp [na,nt]
abbrev SlN (W:World) (s:Value) (l:List Nt):Prop:=Sl W 37 24 s l.length (flat nt l)
structure OutN (w W:World) (s:Value) (l:List Nt):Prop where
 sl:SlN W s l
 own:∀ g,s.ownBlock=some g→w.heap.size ≤ g
theorem OutN.nil (w W:World):OutN w W (.slice none 0 0) []:=⟨Sl.nil _ _ _,fun g h=>by simp [Value.ownBlock] at h⟩
theorem OutN.grown {w W W':World} {s:Value} {l:List Nt} (h:OutN w W s l) (hg:W.grownBy W' none):OutN w W' s l:=⟨h.sl.grown hg,h.own⟩
theorem OutN.since {w0 w W:World} {s:Value} {l:List Nt} (h:OutN w W s l) (hg:w0.heap.size ≤ w.heap.size):OutN w0 W s l:=⟨h.sl,fun g hh=>Nat.le_trans hg (h.own g hh)⟩
section
variable {w:World} {L:LL} {P:Pm} {k:Nr} (h:LN w L P k)
include h
theorem LN.no {g:Nat} {t:TypeId} (ht:ty w g t) (h1:t ≠ 96) (h2:t ≠ 151) (h3:t ≠ 149) (h4:t ≠ 50) (h5:t ≠ 158) (h6:t ≠ 188) (h7:t ≠ 156) (h8:t ≠ 161) (h9:t ≠ 126):¬ L.any g:=by
 rintro (rfl | (rfl | rfl | ⟨q,hq,rfl⟩) | (rfl | rfl | hv) | (rfl | rfl) | rfl)
 ·exact ty_ne ht h.tq h1 rfl
 ·exact ty_ne ht h.tc h2 rfl
 ·exact ty_ne ht h.ts h3 rfl
 ·exact ty_ne ht (h.tr hq) h4 rfl
 ·exact ty_ne ht h.tt' h5 rfl
 ·exact ty_ne ht h.tp h6 rfl
 ·exact ty_ne ht (h.tv hv) h7 rfl
 ·exact ty_ne ht h.tm h8 rfl
 ·exact ty_nz ht h.tmb rfl
 ·exact ty_ne ht h.td h9 rfl
theorem LN.noN {g:Nat} (ht:ty w g 37):¬ L.any g:=h.no ht (by decide) (by decide) (by decide) (by decide) (by decide) (by decide) (by decide) (by decide) (by decide)
theorem OutN.next {w0 w':World} {v s:Value} {l:List Nt} (o:OutN w0 w s l) (hm:Mv w w' L v):OutN w0 w' s l:=
 ⟨o.sl.of_block fun g hg=>hm.kp.block g (o.sl.lt g hg) (h.noN (by obtain ⟨cur,hc⟩:=o.sl.type g hg;exact ⟨_,_,hc⟩)),o.own⟩
end
section
variable {w W W':World} {L:LL} {v:Value} {P:Pm} {k:Nr} {B:List (Nat × Obj)} (m:Mil w W L v P k B)
include m
theorem Mil.ask (n:Nt):Mil w (W.setCells L.q 6 (nt n)) L v P { k with ask:=n,wt:=true } B:=
 m.next (m.ln.put_q (a:=n) (b:=true) (by have:=put_ask (b:=n) m.ln.blk;simpa [shown] using this) (grown_setCells _ _ _ _)) (Mv.one (L:={ L with bv:=v }) (grown_setCells _ _ _ _) (any_q _))
theorem Mil.unask:Mil w (W.setCells L.q 6 (nt zn)) L v P { k with wt:=false } B:=
 m.next (m.ln.put_q (a:=k.ask) (b:=false) (by have:=put_ask (b:=zn) m.ln.blk;simpa [shown] using this) (grown_setCells _ _ _ _)) (Mv.one (L:={ L with bv:=v }) (grown_setCells _ _ _ _) (any_q _))
theorem Mil.stamped (hw:k.wt=true) (x:Int):Mil w (W.setCell ⟨L.q,10,none⟩ (.int .u64 x)) L v P { k with ask:={ k.ask with st:=x } } B:=by
 have hb:=m.ln.blk
 have hs:shown k=k.ask:=by unfold shown;rw [if_pos hw]
 rw [hs] at hb
 have h1:=m.ln.put_q (w':=W.setCell ⟨L.q,10,none⟩ (.int .u64 x)) (a:={ k.ask with st:=x }) (b:=true) (by
  have:=put_st x hb
  simpa [shown] using this) (kk.grown_setCell W L.q 10 _)
 have h2:({ k with ask:={ k.ask with st:=x },wt:=true }:Nr)={ k with ask:={ k.ask with st:=x } }:=by rw [← hw]
 rw [h2] at h1
 exact m.next h1 (Mv.one (L:={ L with bv:=v }) (kk.grown_setCell W L.q 10 _) (any_q _))
theorem Mil.thereQ:W.there L.q 6 24:=there_from m.ln.blk (by rw [lc_size];decide)
theorem Mil.notes {o:Option Nat} (hg:W.grownBy W' o) (ho:∀ g,o=some g→w.heap.size ≤ g∧ty W g 37):Mil w W' L v P k []:=by
 have hn:∀ g,{ L with bv:=v }.any g→W'.heap[g]?=W.heap[g]?:=fun g ha=>hg.block g (m.ln.lt ha) (fun e=>m.ln.noN (ho g e.symm).2 ha)
 have h0:∀ q:Nat,q < w.heap.size→W'.heap[q]?=W.heap[q]?:=fun q hq=>hg.block q (Nat.lt_of_lt_of_le hq m.mv.kp.size) (fun e=>by have:=(ho q e.symm).1;omega)
 exact ⟨m.ln.same hn (m.ln.tb.same (h0 _ m.tw.1) (h0 _ m.tw.2)),⟨⟨hg.os.trans m.mv.kp.os,hg.tape.trans m.mv.kp.tape,hg.output.trans m.mv.kp.output,Nat.le_trans m.mv.kp.size hg.size,fun j hj hnj=>(h0 j hj).trans (m.mv.kp.block j hj hnj)⟩,m.mv.nx⟩,by simp,by simp,by simp,by simp,m.lt,m.tw⟩
theorem Mil.drops:Mil w W L v P k []:=m.notes (o:=none) (grown_refl _ _) (by simp)
theorem Mil.one (n:Nt):Mil w (W.alloc (.cells (na n) 37)) L v P k []∧OutN w (W.alloc (.cells (na n) 37)) (.slice (some ⟨W.heap.size,0,none⟩) 1 1) [n]:=by
 refine ⟨(m.alloc (na n) 37).drops,⟨.inr ⟨W.heap.size,0,1,na n,rfl,heap_alloc_new _ _,?_,Nat.le_refl _,by unfold maxLen;omega,?_,fun j x hx=>?_⟩,fun g hg=>?_⟩⟩
 ·rw [tt.flat_single,tt.nt_len];rfl
 ·rw [tt.na_size];decide
 ·rw [tt.flat_single] at hx
  rw [Nat.zero_add,na,List.getElem?_toArray];exact hx
 ·simp [Value.ownBlock] at hg
  subst hg
  exact m.mv.kp.size
end
end Go.Proofs.YtcoimipgilkmbaaGreatDoor.nl
