/-
 What the parts of a near answer in the midst of a call: contracts. Conditions: as NlA names them.
-/
import Derived.Test.YtcoimipgilkmbaaGreatDoorTl
import Derived.Test.YtcoimipgilkmbaaGreatDoorNlB
import Derived.StillTailTactics
import Derived.Deep.RegionHeld3
import Derived.BigQuiet
namespace Go.Proofs.YtcoimipgilkmbaaGreatDoor.nl
set_option linter.unusedVariables false
set_option linter.unusedSimpArgs false
set_option maxRecDepth 1000000
set_option maxHeartbeats 16000000
open Go Go.ChangeShapes Go.WideShapes Go.ChangeAt Go.RowKit Go.Shelf
open Go.Proofs.YtcoimipgilkmbaaGreatDoor.nr
open Go.Proofs.YtcoimipgilkmbaaGreatDoor.tt (Cfg Nt na nt zn bare zd fits row tyne lt_of U Tab TabK grown_refl grown_trans grown_alloc grown_setCells grown_drew grown_drewN yes)
open Go.Proofs.YtcoimipgilkmbaaGreatDoor.kk (Ln St zl la ln cfind cdrop cuse cgoes cwrite cturn cput setAt setOf live fF Shp Cac Kept)
open Go.Proofs.YtcoimipgilkmbaaGreatDoor.bk (Bk rem kills puts putE fd fl Nd Rg dead fresh BkAt)
open Go.Proofs.YtcoimipgilkmbaaGreatDoor.mrk (Ms rdS wrS meets addE Dom MkAt)
open Go.Proofs.YtcoimipgilkmbaaGreatDoor.de (Dl sT gE rF aD LAt)
open Go.Proofs.YtcoimipgilkmbaaGreatDoor.oo (ref)
section
variable {w W:World} {L:LL} {v:Value} {P:Pm} {k:Nr} {B:List (Nat × Obj)} (m:Mil w W L v P k B)
include m
theorem Mil.c0:W.cell? ⟨L.q,0,none⟩=some (.int .i64 P.core):=m.ln.c0
theorem Mil.c1:W.cell? ⟨L.q,1,none⟩=some (.int .i64 (P.N:Int)):=m.ln.c1
theorem Mil.c2:W.cell? ⟨L.q,2,none⟩=some (.pointer (some ⟨L.c.b,0,none⟩)):=m.ln.c2
theorem Mil.c3:W.cell? ⟨L.q,3,none⟩=some (.pointer (some ⟨L.bt,0,none⟩)):=m.ln.c3
theorem Mil.c4:W.cell? ⟨L.q,4,none⟩=some (.pointer (some ⟨L.mt,0,none⟩)):=m.ln.c4
theorem Mil.c5:W.cell? ⟨L.q,5,none⟩=some (.pointer (some ⟨L.dg,0,none⟩)):=m.ln.c5
theorem Mil.cask:W.rangeAt L.q 6 (nt (shown k)):=m.ln.cask
theorem Mil.cellN {g:Nat} {n:Nt} (hm:(g,on n) ∈ B) (i:Nat) (x:Value) (hv:(nt n)[i]?=some x):W.cell? ⟨g,i,none⟩=some x:=tt.cell_at (tt.range_of (m.hs _ hm)) i x hv
theorem Mil.cellL {g:Nat} {l:Ln} (hm:(g,ol l) ∈ B) (i:Nat) (x:Value) (hv:(kk.ln l)[i]?=some x):W.cell? ⟨g,i,none⟩=some x:=by
 have:=kk.range_of (m.hs _ hm) i x hv;rwa [Nat.zero_add] at this
theorem Mil.rangeN {g:Nat} {n:Nt} (hm:(g,on n) ∈ B):W.rangeAt g 0 (nt n):=tt.range_of (m.hs _ hm)
theorem Mil.rangeL {g:Nat} {l:Ln} (hm:(g,ol l) ∈ B):W.rangeAt g 0 (kk.ln l):=kk.range_of (m.hs _ hm)
theorem Mil.rangeD {g:Nat} {l:Ln} (hm:(g,ol l) ∈ B):W.rangeAt g 2 (l.d.map U):=fun j x hv=>by
 have:=kk.range_of (m.hs _ hm) (2 + j) x (by rw [kk.ln,show 2 + j=j + 2 from Nat.add_comm _ _];exact hv);rwa [Nat.zero_add] at this
theorem Mil.rangeB {g:Nat} {d:List Int} (hm:(g,od d) ∈ B):W.rangeAt g 0 (d.map U):=fun j x hv=>by
 rw [Nat.zero_add,cell_of_row _ _ j _ _ _ (m.hs _ hm),tt.row,List.getElem?_toArray];exact hv
theorem Mil.find (b:Int):Calls Tryz.prog 58 #[.pointer (some ⟨L.c.b,0,none⟩),.int .i64 b] W fun e W'=>e = .returned (.tuple #[.agg (la (cfind P.c k.ss b).1),.bool (cfind P.c k.ss b).2])∧Mil w W' L v P k B:=
 (kk.find_any L.c P.c k.ss W m.ln.ca m.ln.tb.b b).mono fun e W' hh=>⟨hh.1,m.grown hh.2⟩
theorem Mil.goes (b:Int):Calls Tryz.prog 90 #[.pointer (some ⟨L.c.b,0,none⟩),.int .i64 b] W fun e W'=>e = .returned (.tuple #[.agg (la (cgoes P.c k.ss b).1),.bool (cgoes P.c k.ss b).2])∧Mil w W' L v P k B:=
 (kk.goes_any L.c P.c k.ss W m.ln.ca m.ln.tb.b b).mono fun e W' hh=>⟨hh.1,m.grown hh.2⟩
theorem Mil.drop (b:Int):Calls Tryz.prog 91 #[.pointer (some ⟨L.c.b,0,none⟩),.int .i64 b] W fun e W'=>e = .returned (.bool (cdrop P.c k.ss b).2)∧Mil w W' L v P { k with ss:=(cdrop P.c k.ss b).1 } B:=
 (kk.drop_any L.c P.c k.ss W m.ln.ca m.ln.tb.b b).mono fun e W' hh=>⟨hh.1,m.next (m.ln.put_ca hh.2.1 hh.2.2) (Mv.own (L:={ L with bv:=v }) hh.2.2)⟩
theorem Mil.uses (b:Int):Calls Tryz.prog 55 #[.pointer (some ⟨L.c.b,0,none⟩),.int .i64 b] W fun e W'=>e = .returned (.bool (cuse P.c k.ss b).2)∧Mil w W' L v P { k with ss:=(cuse P.c k.ss b).1 } B:=
 (kk.uses_any L.c P.c k.ss W m.ln.ca m.ln.tb.b b).mono fun e W' hh=>⟨hh.1,m.next (m.ln.put_ca hh.2.1 hh.2.2) (Mv.own (L:={ L with bv:=v }) hh.2.2)⟩
theorem Mil.turn (b s:Int):Calls Tryz.prog 143 #[.pointer (some ⟨L.c.b,0,none⟩),.int .i64 b,.int .u8 s] W fun e W'=>e = .returned (.int .i64 (cturn P.c k.ss b s).2)∧Mil w W' L v P { k with ss:=(cturn P.c k.ss b s).1 } B:=
 (kk.turn_any L.c P.c k.ss W m.ln.ca m.ln.tb.b b s).mono fun e W' hh=>⟨hh.1,m.next (m.ln.put_ca hh.2.1 hh.2.2) (Mv.own (L:={ L with bv:=v }) hh.2.2)⟩
theorem Mil.write (b i x:Int):Calls Tryz.prog 49 #[.pointer (some ⟨L.c.b,0,none⟩),.int .i64 b,.int .i64 i,.int .u32 x] W fun e W'=>e = .returned (.int .i64 (cwrite P.c k.ss b i x).2)∧Mil w W' L v P { k with ss:=(cwrite P.c k.ss b i x).1 } B:=
 (kk.write_any L.c P.c k.ss W m.ln.ca m.ln.tb.b b i x).mono fun e W' hh=>⟨hh.1,m.next (m.ln.put_ca hh.2.1 hh.2.2) (Mv.own (L:={ L with bv:=v }) hh.2.2)⟩
theorem Mil.cput (l:Ln):Calls Tryz.prog 137 #[.pointer (some ⟨L.c.b,0,none⟩),.agg (la l)] W fun e W'=>e = .returned (.int .i64 (cput P.c k.ss l).2)∧Mil w W' L v P { k with ss:=(cput P.c k.ss l).1 } B:=
 (kk.put_any L.c P.c k.ss W m.ln.ca m.ln.tb.b l).mono fun e W' hh=>⟨hh.1,m.next (m.ln.put_ca hh.2.1 hh.2.2) (Mv.own (L:={ L with bv:=v }) hh.2.2)⟩
theorem Mil.bfind (b:Int):Calls Tryz.prog 59 #[.pointer (some ⟨L.bt,0,none⟩),.int .i64 b] W fun e W'=>e = .returned (.tuple #[.agg (row (fd (bk.look k.bs b))),.bool (fl (bk.look k.bs b)),.bool (bk.look k.bs b).isSome])∧∃ v',Mil w W' L v' P k B:=
 (bk.find_any L.bt L.bp v P.N P.m k.bs W m.ln.ba b).mono fun e W' ⟨he,v',hb,hT⟩=>⟨he,v',m.next (m.ln.put_ba hb hT) (Mv.turn (L:={ L with bv:=v }) hT)⟩
theorem Mil.bdrop (b:Int):Calls Tryz.prog 139 #[.pointer (some ⟨L.bt,0,none⟩),.int .i64 b] W fun e W'=>e = .returned (.bool (bk.look k.bs b).isSome)∧∃ v',Mil w W' L v' P { k with bs:=rem k.bs b } B:=
 (bk.drop_any L.bt L.bp v P.N P.m k.bs W m.ln.ba b).mono fun e W' ⟨he,v',hb,hT⟩=>⟨he,v',m.next (m.ln.put_ba hb hT) (Mv.turn (L:={ L with bv:=v }) hT)⟩
theorem Mil.bkill (b:Int):Calls Tryz.prog 170 #[.pointer (some ⟨L.bt,0,none⟩),.int .i64 b] W fun e W'=>e = .returned (.bool (fl (bk.look k.bs b)))∧∃ v',Mil w W' L v' P { k with bs:=kills k.bs b } B:=
 (bk.kill_any L.bt L.bp v P.N P.m k.bs W m.ln.ba b).mono fun e W' ⟨he,v',hb,hT⟩=>⟨he,v',m.next (m.ln.put_ba hb hT) (Mv.turn (L:={ L with bv:=v }) hT)⟩
theorem Mil.bput (b:Int) (d:List Int) (hd:d.length=16):Calls Tryz.prog 129 #[.pointer (some ⟨L.bt,0,none⟩),.int .i64 b,.agg (row d)] W fun e W'=>e = .returned (.int .i64 (putE P.N P.m k.bs b))∧∃ v',Mil w W' L v' P { k with bs:=puts P.N P.m k.bs b d hd } B:=
 (bk.put_any L.bt L.bp v P.N P.m k.bs W m.ln.ba b d hd).mono fun e W' ⟨he,v',hb,hT⟩=>⟨he,v',m.next (m.ln.put_ba hb hT) (Mv.turn (L:={ L with bv:=v }) hT)⟩
theorem Mil.broom:Calls Tryz.prog 92 #[.pointer (some ⟨L.bt,0,none⟩)] W fun e W'=>e = .returned (.int .i64 ((P.m:Int) - (k.bs.length:Int)))∧Mil w W' L v P k B:=
 (bk.room_any L.bt L.bp v P.N P.m k.bs W m.ln.ba).mono fun e W' ⟨he,n,hn⟩=>⟨he,by rw [hn];exact m.grown (grown_drewN (grown_refl _ _) n)⟩
theorem Mil.has (b:Int):Calls Tryz.prog 79 #[.pointer (some ⟨L.mt,0,none⟩),.int .i64 b] W fun e W'=>e = .returned (.tuple #[.bool (k.ms.r b),.bool (k.ms.w b)])∧W=W':=mrk.has_any m.ln.mr b
theorem Mil.meets (kd b:Int):Calls Tryz.prog 141 #[.pointer (some ⟨L.mt,0,none⟩),.int .u8 kd,.int .i64 b] W fun e W'=>e = .returned (.bool (meets k.ms kd b))∧W=W':=mrk.meets_any m.ln.mr kd b
theorem Mil.read (b:Int):Calls Tryz.prog 54 #[.pointer (some ⟨L.mt,0,none⟩),.int .i64 b] W fun e W'=>(∃ x,e = .returned (.int .i64 x))∧Mil w W' L v P { k with ms:=rdS P.N k.ms b } B:=
 (mrk.read_any m.ln.mr b).mono fun e W' hh=>⟨⟨_,hh.1⟩,m.next (m.ln.put_mk hh.2.1 hh.2.2) (Mv.one (L:={ L with bv:=v }) hh.2.2 (any_mb _))⟩
theorem Mil.wrote (b:Int):Calls Tryz.prog 50 #[.pointer (some ⟨L.mt,0,none⟩),.int .i64 b] W fun e W'=>(∃ x,e = .returned (.int .i64 x))∧Mil w W' L v P { k with ms:=wrS P.N k.ms b } B:=
 (mrk.write_any m.ln.mr b).mono fun e W' hh=>⟨⟨_,hh.1⟩,m.next (m.ln.put_mk hh.2.1 hh.2.2) (Mv.one (L:={ L with bv:=v }) hh.2.2 (any_mb _))⟩
theorem Mil.clear:Calls Tryz.prog 53 #[.pointer (some ⟨L.mt,0,none⟩)] W fun e W'=>e = .returned (.tuple #[])∧Mil w W' L v P (clrS k) B:=
 (mrk.clear_any m.ln.mr).mono fun e W' hh=>⟨hh.1,m.next (m.ln.put_mk hh.2.1 hh.2.2) (Mv.one (L:={ L with bv:=v }) hh.2.2 (any_mb _))⟩
theorem Mil.depth:Calls Tryz.prog 36 #[.pointer (some ⟨L.dg,0,none⟩)] W fun e W'=>e = .returned (.int .i64 k.d.de)∧W=W':=de.depth_any m.ln.dl
theorem Mil.stamp:Calls Tryz.prog 28 #[.pointer (some ⟨L.dg,0,none⟩)] W fun e W'=>e = .returned (.int .u64 (sT k.d))∧W=W':=de.stamp_any m.ln.dl
theorem Mil.asked (b:Bool) (x:Int):Calls Tryz.prog 140 #[.pointer (some ⟨L.dg,0,none⟩),.bool b,.int .u64 x] W fun e W'=>e = .returned (.bool (ref (sT k.d) b))∧Mil w W' L v P { k with d:=aD k.d b x } B:=
 (de.asked_any m.ln.dl b x).mono fun e W' hh=>⟨hh.1,m.next (m.ln.put_dl hh.2.1 hh.2.2) (Mv.one (L:={ L with bv:=v }) hh.2.2 (any_dg _))⟩
theorem Mil.refused (x:Int):Calls Tryz.prog 138 #[.pointer (some ⟨L.dg,0,none⟩),.int .u64 x] W fun e W'=>e = .returned (.bool (rF k.d x))∧Mil w W' L v P k B:=
 (de.refused_any m.ln.dl x).mono fun e W' ⟨he,n,hn⟩=>⟨he,by rw [hn];exact m.grown (grown_drewN (grown_refl _ _) n)⟩
end
theorem ret_nt1 {fn:Func} {p:Tmp} (hres:fn.results=#[.cell p 37]) {tmps:Array Value} {w:World} {g:Nat} {x:Nt} {Q:Ending→World→Prop} (hp:tmps.getD p undef = .pointer (some ⟨g,0,none⟩)) (hg:w.heap[g]?=some (on x)) (hQ:Q (.returned (.agg (na x))) w):bodyPost Tryz.prog fn Q .ret { tmps:=tmps,defers:=[] } w:=
 bodyPost_ret (v:= .agg (na x)) (results_cell_row hres _ _ g 37 (na x) (0,0) _ hp hg Tryz.underlying37 rfl (tt.info31a x)) rfl hQ
theorem ret_nt2 {fn:Func} {p q:Tmp} (hres:fn.results=#[.cell p 37,.tmp q]) {tmps:Array Value} {w:World} {g:Nat} {x:Nt} {u:Value} {Q:Ending→World→Prop} (hp:tmps.getD p undef = .pointer (some ⟨g,0,none⟩)) (hq:tmps.getD q undef=u) (hr:w.rangeAt g 0 (nt x)) (hQ:Q (.returned (.tuple #[.agg (na x),u])) w):bodyPost Tryz.prog fn Q .ret { tmps:=tmps,defers:=[] } w:=by
 refine bodyPost_ret (v:= .tuple #[.agg (na x),u]) ?_ rfl hQ
 rw [results_cell_tmp hres,hp,hq]
 have:=run_loadVar_mid (P:=Tryz.prog) w g 0 37 (nt x) _ hr Tryz.underlying37 rfl (tt.info31' x)
 simp [asAddr,Result.andThen,this,na]
theorem ret_ln2 {fn:Func} {p q:Tmp} (hres:fn.results=#[.cell p 50,.tmp q]) {tmps:Array Value} {w:World} {g:Nat} {x:Ln} {u:Value} {Q:Ending→World→Prop} (hp:tmps.getD p undef = .pointer (some ⟨g,0,none⟩)) (hq:tmps.getD q undef=u) (hr:w.rangeAt g 0 (ln x)) (hQ:Q (.returned (.tuple #[.agg (la x),u])) w):bodyPost Tryz.prog fn Q .ret { tmps:=tmps,defers:=[] } w:=by
 refine bodyPost_ret (v:= .tuple #[.agg (la x),u]) ?_ rfl hQ
 rw [results_cell_tmp hres,hp,hq]
 have:=run_loadVar_mid (P:=Tryz.prog) w g 0 50 (ln x) _ hr Tryz.underlying50 rfl (kk.info36' x)
 simp [asAddr,Result.andThen,this,la]
theorem ret_bl2 {fn:Func} {p q:Tmp} (hres:fn.results=#[.cell p 35,.tmp q]) {tmps:Array Value} {w:World} {g:Nat} {d:List Int} (hd:d.length=16) {u:Value} {Q:Ending→World→Prop} (hp:tmps.getD p undef = .pointer (some ⟨g,0,none⟩)) (hq:tmps.getD q undef=u) (hr:w.rangeAt g 0 (d.map U)) (hQ:Q (.returned (.tuple #[.agg (row d),u])) w):bodyPost Tryz.prog fn Q .ret { tmps:=tmps,defers:=[] } w:=by
 refine bodyPost_ret (v:= .tuple #[.agg (row d),u]) ?_ rfl hQ
 rw [results_cell_tmp hres,hp,hq]
 have:=run_loadVar_mid (P:=Tryz.prog) w g 0 35 (d.map U) _ hr Tryz.underlying35 rfl (bk.infoR d hd)
 simp [asAddr,Result.andThen,this,row]
theorem zn_na:na zn=#[.int .u8 0,.int .i64 0,.int .i64 0,.int .i64 0,.int .u64 0,.int .u8 0,.bool false,.bool false,.int .u32 0,.int .u32 0,.int .u32 0,.int .u32 0,.int .u32 0,.int .u32 0,.int .u32 0,.int .u32 0,.int .u32 0,.int .u32 0,.int .u32 0,.int .u32 0,.int .u32 0,.int .u32 0,.int .u32 0,.int .u32 0]:=rfl
def mw (l:Ln):Bool:=decide (l.s ≠ 1)
theorem maywrite_any (l:Ln) (w:World):Calls Tryz.prog 89 #[.agg (la l)] w fun e w'=>e = .returned (.bool (mw l))∧w.grownBy w' none:=by
 have q1:(w.alloc (.cells (la l) 50)).cell? ⟨w.heap.size,1,none⟩=some (.int .u8 l.s):=(cell_of_row _ _ _ _ _ _ (heap_alloc_new _ _)).trans (by simp [la,ln])
 go_enter Tryz.func89,Tryz.ntmps89
 go_wp2_with fail
 go_ret
 exact ⟨by unfold mw;by_cases h:l.s=1 <;> simp [h],grown_alloc (grown_refl _ _) _⟩
section
variable {w:World} {L:LL} {P:Pm} {k:Nr} (h:LN w L P k)
include h
theorem home_any (kd b:Int):Calls Tryz.prog 94 #[.pointer (some ⟨L.q,0,none⟩),.int .u8 kd,.int .i64 b] w fun e w'=>e = .returned (.agg (na (bare kd P.core (-1) b 0 0 false false)))∧w.grownBy w' none:=by
 have c0:=(h.grown (grown_alloc (grown_refl w none) (.cells (na zn) 37))).c0
 have HB:Hid ((w.alloc (.cells (na zn) 37)).heap[w.heap.size]?=some (.cells (na zn) 37 (0,0))):=qh (heap_alloc_new _ _)
 have HG:Hid (w.grownBy (w.alloc (.cells (na zn) 37)) none):=qh (grown_alloc (grown_refl _ _) _)
 rw [zn_na] at c0 HB HG
 clear h
 go_enter Tryz.func94,Tryz.ntmps94
 go_wp2_with (first
  | ((with_reducible refine tt.store_any (bare kd P.core (-1) b 0 0 false false) (na zn) 6 13 w.heap.size ?_ ?_ ?_ ?_ ?_);((rfl));((rfl));((exact HB.out));((rfl))))
 exact ret_nt1 rfl (x:=bare kd P.core (-1) b 0 0 false false) (g:=w.heap.size) rfl (setRow_heap _ _ _ _ _ _ HB.out) ⟨rfl,tt.grown_setRow HG.out _ (Nat.le_refl _) _⟩
theorem marked_any (b:Int):Calls Tryz.prog 34 #[.pointer (some ⟨L.q,0,none⟩),.int .i64 b] w fun e w'=>e = .returned (.tuple #[.bool (k.ms.r b),.bool (k.ms.w b)])∧w=w':=by
 have c4:=h.c4
 have HH:=qh (mrk.has_any h.mr b)
 clear h
 go_enter Tryz.func34,Tryz.ntmps34
 go_wp2_with (go_at_call 79;((with_reducible refine HH.out.mono ?_);rintro e w1 ⟨rfl,rfl⟩))
 go_ret2
 exact ⟨rfl,rfl⟩
theorem deal_any:Calls Tryz.prog 24 #[.pointer (some ⟨L.q,0,none⟩)] w fun e w'=>e = .returned (.pointer (some ⟨L.dg,0,none⟩))∧w=w':=by
 have c5:=h.c5
 clear h
 go_enter Tryz.func24,Tryz.ntmps24
 go_wp2_with fail
 go_ret
 exact ⟨rfl,rfl⟩
theorem clear_any:Calls Tryz.prog 18 #[.pointer (some ⟨L.q,0,none⟩)] w fun e w'=>e = .returned (.tuple #[])∧∃ v,LN w' { L with bv:=v } P (clrS k)∧Mv w w' L v:=by
 have c4:=h.c4
 have HC:=qh (Mil.of h).clear
 clear h
 go_enter Tryz.func18,Tryz.ntmps18
 go_wp2_with (go_at_call 53;((with_reducible refine HC.out.mono ?_);rintro e w1 ⟨rfl,hm⟩;have HM:=qh hm;clear hm))
 refine bodyPost_end (results_none rfl _ _ _) rfl ?_
 exact ⟨rfl,_,HM.out.ln,HM.out.mv⟩
end
end Go.Proofs.YtcoimipgilkmbaaGreatDoor.nl
