/-
 A back as cells, loads and stores of one: definitions and laws. No condition but the bounds that each theorem names.
 What a pool of backs answers to New, Len, Room, At, Put, Take, Copy: contracts. No condition but the bounds that each theorem names.
 What a pool of backs is behind Put and Take, and what these and Copy answer: contracts. No condition but the bounds that each theorem names.
 What a pool of backs answers to Take and Copy: contracts. No condition but the bounds that each theorem names.
 Who goes over a pool of backs is told places and notes, in order, until a round says 'no more': contracts. No condition but the bounds that each theorem names.
 The first place of a back of a block: contracts. No condition but the bounds that each theorem names.
 Blocks that a core is writing back: where they lie, what New, place, Len, Room, Copy answer: definitions and contracts. Condition: for New the table of bounds lies in its variable as the program's text has it.
 What take and Find of Backs answer, and what is there behind them: contracts. No condition but the bounds that each theorem names.
 What take, Find, Drop, Kill of Backs answer, and what is there behind them: contracts. No condition but the bounds that each theorem names.
 What the calls on Backs come to as plain data; Backs that were made since a world began; what calls on none answer: definitions and contracts. Condition: for New the table of bounds lies in its variable as the program's text has it.
-/
import Derived.Test.YtcoimipgilkmbaaGreatDoorTl
import Derived.Test.YtcoimipgilkmbaaGreatDoorSl
import Derived.RangeFuncBox
import Derived.RangeFuncLeaves
import Derived.RangeFuncBound
import Derived.RangeFuncCalls
import Derived.Shelf.Abstract
import Derived.OwnWalkIn
import Derived.TacticsInMore
import Derived.LoopNIn
import Derived.LoopIn
import Derived.RangeFuncNested
namespace Go.Proofs.YtcoimipgilkmbaaGreatDoor.bk
set_option linter.unusedVariables false
set_option linter.unusedSimpArgs false
set_option maxRecDepth 1000000
set_option maxHeartbeats 16000000
open Go Go.ChangeShapes Go.WideShapes Go.ChangeAt Go.RowKit
open Go.Proofs.YtcoimipgilkmbaaGreatDoor.tt (U zd row tyne add_lit lt_of range_grown setCells_rest heap_setCells_other grown_setCells grown_setRow grown_new grown_drewN below_of grown_alloc grown_refl grown_trans grown_drew Sl run_append_sl append_sl step_append_sl tail_sl head_sl Pool Turn Next src_one src_one' flat flat_len flat_at flat_take flat_drop flat_append flat_one flat_single flat_erase heap_setCells)
structure Bk where
 b:Int
 d:List Int
 l:Bool
 hd:d.length=16
deriving DecidableEq
def zb:Bk:=⟨0,zd,false,rfl⟩
theorem Bk.ext {x y:Bk} (h1:x.b=y.b) (h2:x.d=y.d) (h3:x.l=y.l):x=y:=by
 obtain ⟨_,_,_,_⟩:=x;obtain ⟨_,_,_,_⟩:=y;simp at *;simp_all
def bt (n:Bk):List Value:= .int .i64 n.b :: (n.d.map U ++ [.bool n.l])
def ba (n:Bk):Array Value:=(bt n).toArray
theorem bt_len (n:Bk):(bt n).length=18:=by simp [bt,n.hd]
theorem ba_size (n:Bk):(ba n).size=18:=by simp [ba,bt_len]
theorem bt_one (n:Bk):∀ v ∈ bt n,v.oneCell'=true:=by
 intro v hv
 simp [bt,U] at hv
 rcases hv with rfl | ⟨x,_,rfl⟩ | rfl <;> rfl
theorem ba_one (n:Bk):(ba n).all (·.oneCell')=true:=all_oneCell_toArray (bt_one n)
theorem bt_d (n:Bk) (k:Nat) (hk:k < 16):(bt n)[1 + k]?=(n.d[k]?).map U:=by
 rw [Nat.add_comm];simp [bt,List.getElem?_append,n.hd,hk]
theorem bt_l (n:Bk):(bt n)[17]?=some (.bool n.l):=by
 simp [bt,n.hd]
theorem info31:(Tryz.prog.info? 156).map (·.size)=some 18:=by kernel_rfl
theorem info31' (n:Bk):(Tryz.prog.info? 156).map (·.size)=some (bt n).length:=by rw [bt_len];exact info31
theorem info31a (n:Bk):(Tryz.prog.info? 156).map (·.size)=some (ba n).size:=by rw [ba_size];exact info31
theorem zb_ba:ba zb=#[.int .i64 0,.int .u32 0,.int .u32 0,.int .u32 0,.int .u32 0,.int .u32 0,.int .u32 0,.int .u32 0,.int .u32 0,.int .u32 0,.int .u32 0,.int .u32 0,.int .u32 0,.int .u32 0,.int .u32 0,.int .u32 0,.int .u32 0,.bool false]:=rfl
theorem range_of {w:World} {g:Nat} {n:Bk} {t:TypeId} (h:w.heap[g]?=some (.cells (ba n) t (0,0))):w.rangeAt g 0 (bt n):=fun j v hv=>by
 rw [Nat.zero_add,cell_of_row _ _ j _ _ _ h]
 simpa [ba] using hv
theorem cell_at {w:World} {g:Nat} {n:Bk} (h:w.rangeAt g 0 (bt n)) (j:Nat) (v:Value) (hv:(bt n)[j]?=some v):w.cell? ⟨g,j,none⟩=some v:=by
 have:=h j v hv;rwa [Nat.zero_add] at this
theorem there_of {w:World} {g:Nat} {c:Array Value} {t:TypeId} (h:w.heap[g]?=some (.cells c t (0,0))) (hc:c.size=18):w.there g 0 18:=fun i hi=>by
 refine ⟨?_,frozen_of_row _ _ _ _ _ h⟩
 rw [cell_of_row _ _ _ _ _ _ h,Nat.zero_add,Array.getElem?_eq_getElem (by omega)];rfl
section
variable {w:World} {ops:Array Oper} {rest:List Oper} {a:Act} {Q:Exit→Act→World→Prop} {dst:Option Tmp} {ty:TypeId} {pos:String} {after:Array Edge}
theorem load_bt (n:Bk) (x:Tmp) (g:Nat) (hx:a.eval (.tmp x) = .pointer (some ⟨g,0,none⟩)) (hg:w.rangeAt g 0 (bt n))
  (h:wpList Tryz.prog ops Q rest (a.put dst (.agg (ba n))) w):wpList Tryz.prog ops Q (⟨dst,.load 156 (.tmp x),ty,pos,after,none⟩ :: rest) a w:=
 wpList_load_mid rfl 156 (.tmp x) rfl g 0 hx (bt n) _ hg Tryz.underlying156 rfl (info31' n) h
theorem store_any (n:Bk) (c:Array Value) (x y:Tmp) (g:Nat) (hx:a.eval (.tmp x) = .pointer (some ⟨g,0,none⟩)) (hy:a.eval (.tmp y) = .agg (ba n)) (hg:w.heap[g]?=some (.cells c 156 (0,0))) (hc:c.size=18)
  (h:wpList Tryz.prog ops Q rest (a.put dst undef) (w.setRow g (ba n))):wpList Tryz.prog ops Q (⟨dst,.store 156 (.tmp x) (.tmp y),ty,pos,after,none⟩ :: rest) a w:=
 wpList_store_row rfl 156 (.tmp x) (.tmp y) rfl g (ba n) hx hy 156 _ hg (info31a n) (by rw [ba_size,hc]) (ba_one n) h
theorem store_new (n:Bk) (c:Array Value) (x y:Tmp) (hx:a.eval (.tmp x) = .pointer (some ⟨w.heap.size,0,none⟩)) (hy:a.eval (.tmp y) = .agg (ba n)) (hc:c.size=18)
  (h:wpList Tryz.prog ops Q rest (a.put dst undef) (w.alloc (.cells (ba n) 156))):wpList Tryz.prog ops Q (⟨dst,.store 156 (.tmp x) (.tmp y),ty,pos,after,none⟩ :: rest) a (w.alloc (.cells c 156)):=by
 refine wpList_store_row rfl 156 (.tmp x) (.tmp y) rfl w.heap.size (ba n) hx hy 156 _ (heap_alloc_new _ _) (info31a n) (by rw [ba_size,hc]) (ba_one n) ?_
 rw [World.setRow_alloc_new];exact h
end
theorem named:∃ (t:TypeId) (m:Nat),Hid (Op.load 156=Op.load t)∧(∀ w,(isAgg t).run Tryz.prog w = .ok true w)∧(∀ w,(sizeOf t).run Tryz.prog w = .ok m w) ∧
  ∀ (g:Nat) (n:Bk) (w:World),w.rangeAt g 0 (bt n)→(loadCellsFrom ⟨g,0,none⟩ 0 m #[]).run Tryz.prog w = .ok (ba n) w:=
 ⟨156,18,qh rfl,Tryz.isAgg156,Tryz.sizeOf156,fun g n w h=>by
  have:=run_loadCells_list (P:=Tryz.prog) w ⟨g,0,none⟩ (bt n) (fun j v hv=>by rw [add_lit];exact h j v hv)
  simpa [loadCells,bt_len,ba] using this⟩
theorem box (w:World) (n:Bk) (j:Nat) (v:Value) (h:(bt n)[j]?=some v):(w.alloc (.cells (ba n) 156)).cell? ⟨w.heap.size,j,none⟩=some v:=by
 have h:=cell_at (range_of (heap_alloc_new w (.cells (ba n) 156))) j v h
 exact h
section
variable {w:World} {ops:Array Oper} {rest:List Oper} {a:Act} {Q:Exit→Act→World→Prop} {dst:Option Tmp} {ty:TypeId} {pos:String} {after:Array Edge}
theorem store_lit (n:Bk) (A:Array Value) (hA:ba n=A) (c:Array Value) (x y:Tmp) (hx:a.eval (.tmp x) = .pointer (some ⟨w.heap.size,0,none⟩)) (hy:a.eval (.tmp y) = .agg A) (hc:c.size=18)
  (h:wpList Tryz.prog ops Q rest (a.put dst undef) (w.alloc (.cells A 156))):wpList Tryz.prog ops Q (⟨dst,.store 156 (.tmp x) (.tmp y),ty,pos,after,none⟩ :: rest) a (w.alloc (.cells c 156)):=by
 subst hA;exact store_new n c x y hx hy hc h
theorem load_new (n:Bk) (A:Array Value) (hA:ba n=A) (x:Tmp) (hx:a.eval (.tmp x) = .pointer (some ⟨w.heap.size,0,none⟩))
  (h:wpList Tryz.prog ops Q rest (a.put dst (.agg (ba n))) (w.alloc (.cells A 156))):wpList Tryz.prog ops Q (⟨dst,.load 156 (.tmp x),ty,pos,after,none⟩ :: rest) a (w.alloc (.cells A 156)):=by
 subst hA;exact load_bt n x _ hx (range_of (heap_alloc_new _ _)) h
end
structure Two (w w2:World) (n:Bk):Prop where
 grown:w.grownBy w2 none
 old:w2.heap[w.heap.size]?=some (.cells (ba n) 156 (0,0))
 res:w2.heap[w.heap.size + 1]?=some (.cells (ba zb) 156 (0,0))
 size:w2.heap.size=w.heap.size + 2
theorem two_of (w:World) (n:Bk):∃ w2,(w.alloc (.cells (ba n) 156)).alloc (.cells (ba zb) 156)=w2∧Two w w2 n:=by
 refine ⟨_,rfl,grown_alloc (grown_alloc (grown_refl _ _) _) _,(Below.heap_alloc _ _ _ (by simp)).trans (heap_alloc_new _ _),?_,by simp⟩
 have h:=heap_alloc_new (w.alloc (.cells (ba n) 156)) (.cells (ba zb) 156)
 rwa [show (w.alloc (.cells (ba n) 156)).heap.size=w.heap.size + 1 by simp] at h
theorem Two.res1 {w w2:World} {n:Bk} (h:Two w w2 n) (o:Obj):(w2.alloc o).heap[w.heap.size + 1]?=some (.cells (ba zb) 156 (0,0)):=
 (Below.heap_alloc _ _ _ (by rw [h.size];omega)).trans h.res
theorem Two.end_ {w w2:World} {n:Bk} (h:Two w w2 n) (o:Obj) (m:Bk):((w2.alloc o).setRow (w.heap.size + 1) (ba m)).rangeAt (w.heap.size + 1) 0 (bt m)∧w.grownBy ((w2.alloc o).setRow (w.heap.size + 1) (ba m)) none:=
 ⟨range_of (setRow_heap _ _ _ _ _ _ (h.res1 o)),grown_setRow (grown_alloc h.grown _) _ (by omega) _⟩
end Go.Proofs.YtcoimipgilkmbaaGreatDoor.bk
namespace Go.Proofs.YtcoimipgilkmbaaGreatDoor.bk
set_option linter.unusedVariables false
set_option linter.unusedSimpArgs false
set_option maxRecDepth 1000000
set_option maxHeartbeats 16000000
open Go Go.ChangeShapes Go.WideShapes Go.ChangeAt Go.RowKit
open Go.Proofs.YtcoimipgilkmbaaGreatDoor.tt (U zd row tyne add_lit lt_of range_grown setCells_rest heap_setCells_other grown_setCells grown_setRow grown_new grown_drewN below_of grown_alloc grown_refl grown_trans grown_drew Sl run_append_sl append_sl step_append_sl tail_sl head_sl Pool Turn Next src_one src_one' flat flat_len flat_at flat_take flat_drop flat_append flat_one flat_single flat_erase heap_setCells)
abbrev BSl (w:World) (v:Value) (ns:List Bk):Prop:=Sl w 156 18 v ns.length (flat bt ns)
abbrev BPool (w:World) (b:Nat) (v:Value) (room:Nat) (ns:List Bk):Prop:=Pool w 188 156 18 b v room ns.length (flat bt ns)
theorem bflat_one (ns:List Bk):∀ v ∈ flat bt ns,v.oneCell'=true:=flat_one bt_one ns
theorem infoN:(Tryz.prog.info? 156).map (fun i=>(i.zero,i.size,i.bytes))=some (some (.agg (ba zb)),18,80):=by kernel_rfl
theorem zb_cells:(Value.agg (ba zb)).cells.size=18:=by rfl
theorem bsl_at {w:World} {ad:Option Addr} {m cap:Nat} {ns:List Bk} (h:BSl w (.slice ad m cap) ns) (k:Nat) (x:Bk) (hk:ns[k]?=some x) :
  ∃ g off,ad=some ⟨g,off,none⟩∧m=ns.length∧w.rangeAt g (off + k * 18) (bt x):=by
 obtain ⟨v0,h0⟩:∃ v,(bt x)[0]?=some v:=⟨_,rfl⟩
 obtain ⟨g,off,ha,hm,hc⟩:=Sl.cellAt h _ _ (flat_at bt_len ns k x 0 v0 hk h0)
 exact ⟨g,off,ha,hm,fun j v hv=>by rw [Nat.add_assoc];exact hc _ _ (flat_at bt_len ns k x j v hk hv)⟩
section
variable {w:World} {ops:Array Oper} {rest:List Oper} {a:Act} {Q:Exit→Act→World→Prop} {dst:Option Tmp} {ty:TypeId} {pos:String} {after:Array Edge}
theorem load_ba (n:Bk) (x:Tmp) (g o:Nat) (hx:a.eval (.tmp x) = .pointer (some ⟨g,o,none⟩)) (hg:w.rangeAt g o (bt n))
  (h:wpList Tryz.prog ops Q rest (a.put dst (.agg (ba n))) w):wpList Tryz.prog ops Q (⟨dst,.load 156 (.tmp x),ty,pos,after,none⟩ :: rest) a w:=
 wpList_load_mid rfl 156 (.tmp x) rfl g o hx (bt n) _ hg Tryz.underlying156 rfl (info31' n) h
end
theorem ret_bte {fn:Func} {p q:Tmp} (hres:fn.results=#[.cell p 156,.tmp q]) (w:World) (n:Bk) (v:Value) (B:Nat) (tmps:Array Value) (Q:Ending→World→Prop) (h4:tmps.getD p undef = .pointer (some ⟨B,0,none⟩)) (h5:tmps.getD q undef=v)
  (hr:w.rangeAt B 0 (bt n)) (hQ:Q (.returned (.tuple #[.agg (ba n),v])) w):bodyPost Tryz.prog fn Q .ret { tmps:=tmps,defers:=[] } w:=by
 refine bodyPost_ret (v:= .tuple #[.agg (ba n),v]) ?_ rfl hQ
 have:=run_loadVar_mid (P:=Tryz.prog) w B 0 156 (bt n) _ hr Tryz.underlying156 rfl (info31' n)
 have h4':tmps[p]?.getD undef = .pointer (some ⟨B,0,none⟩):=by simpa using h4
 have h5':tmps[q]?.getD undef=v:=by simpa using h5
 simp [results,hres,h4',h5',asAddr,this,ba]
theorem pnew_ok (room:Nat) (w:World) (h1:1 ≤ room) (h2:room ≤ 65536):Calls Tryz.prog 85 #[.int .i64 (room:Int)] w fun e w'=>e = .returned (.tuple #[.pointer (some ⟨w.heap.size,0,none⟩),.int .i64 0])∧w'=w.alloc (.cells #[.slice none 0 0,.int .i64 (room:Int)] 188):=by
 go_enter Tryz.func85,Tryz.ntmps85
 go_wp2
 go_ret2
 exact ⟨rfl,rfl⟩
section
variable (b:Nat) (v:Value) (room:Nat) (ns:List Bk) (w:World) (hP:BPool w b v room ns)
include hP
theorem proom_any (hl:ns.length ≤ room) (hr:room ≤ 65536):Calls Tryz.prog 128 #[.pointer (some ⟨b,0,none⟩)] w fun e w'=>e = .returned (.int .i64 ((room:Int) - (ns.length:Int)))∧∃ n,w'=w.drewN n:=by
 obtain ⟨ad,cap,rfl⟩:=hP.sl.form
 have hc:=hP.cell0
 have hc1:=hP.cell1
 clear hP
 obtain ⟨q,hq⟩:∃ q,q=ns.length:=⟨_,rfl⟩
 rw [← hq] at hc hl ⊢
 clear hq
 go_enter Tryz.func128,Tryz.ntmps128
 go_wp2_with fail
 go_quiet (fail)
 go_wp2_with fail
 go_ret
 exact ⟨rfl,_,rfl⟩
end
theorem twoz (w:World):∃ w2,(w.alloc (.cells (ba zb) 156)).alloc (.cells (ba zb) 156)=w2∧Two w w2 zb:=two_of w zb
theorem Two.set {w w2:World} {n:Bk} (h:Two w w2 n) (m:Bk):(w2.setRow w.heap.size (ba m)).rangeAt w.heap.size 0 (bt m)∧w.grownBy (w2.setRow w.heap.size (ba m)) none:=
 ⟨range_of (setRow_heap _ _ _ _ _ _ h.old),grown_setRow h.grown _ (Nat.le_refl _) _⟩
theorem pat_out (b:Nat) (v:Value) (room:Nat) (ns:List Bk) (i:Int) (w:World) (hP:BPool w b v room ns) (h:i < 0 ∨ (ns.length:Int) ≤ i):Calls Tryz.prog 100 #[.pointer (some ⟨b,0,none⟩),.int .i64 i] w fun e w'=>e = .returned (.tuple #[.agg (ba zb),.int .i64 5])∧w.grownBy w' none:=by
 obtain ⟨w2,hw,h2⟩:=twoz w
 have hP2:=hP.grown h2.grown
 obtain ⟨ad,cap,rfl⟩:=hP2.sl.form
 have hc:=hP2.cell0
 have hz:ba zb=_:=zb_ba
 rw [hz] at hw
 have HT:=qh h2
 clear hP hP2 h2 hz
 obtain ⟨q,hq⟩:∃ q,q=ns.length:=⟨_,rfl⟩
 rw [← hq] at hc h
 clear hq
 have HR:Hid (w2.rangeAt (w.heap.size + 1) 0 (bt zb)):=qh (range_of HT.out.res)
 by_cases h0:i < 0
 ·clear h
  go_enter Tryz.func100,Tryz.ntmps100
  go_wp2_with (first
   | ((with_reducible refine load_bt zb _ (w.heap.size + 1) ?_ HR.out ?_);(rfl))
   | ((with_reducible refine store_any zb _ _ _ w.heap.size ?_ ?_ HT.out.old ?_ ?_);(rfl);(rfl);(rfl)))
  exact ret_bte rfl _ zb _ w.heap.size _ _ (by rfl) (by rfl) (HT.out.set zb).1 ⟨rfl,(HT.out.set zb).2⟩
 ·have h1:decide (i < 0)=false:=by simp;omega
  have h2:decide ((q:Int) ≤ i)=true:=by simp;omega
  clear h h0
  go_enter Tryz.func100,Tryz.ntmps100
  go_wp2_with (first
   | ((with_reducible refine load_bt zb _ (w.heap.size + 1) ?_ HR.out ?_);(rfl))
   | ((with_reducible refine store_any zb _ _ _ w.heap.size ?_ ?_ HT.out.old ?_ ?_);(rfl);(rfl);(rfl)))
  exact ret_bte rfl _ zb _ w.heap.size _ _ (by rfl) (by rfl) (HT.out.set zb).1 ⟨rfl,(HT.out.set zb).2⟩
theorem pat_in (b:Nat) (v:Value) (room:Nat) (ns:List Bk) (k:Nat) (x:Bk) (w:World) (hP:BPool w b v room ns) (hx:ns[k]?=some x):Calls Tryz.prog 100 #[.pointer (some ⟨b,0,none⟩),.int .i64 (k:Int)] w fun e w'=>e = .returned (.tuple #[.agg (ba x),.int .i64 0])∧w.grownBy w' none:=by
 obtain ⟨w2,hw,h2⟩:=twoz w
 have hP2:=hP.grown h2.grown
 obtain ⟨ad,cap,rfl⟩:=hP2.sl.form
 obtain ⟨g,off,rfl,_,hr⟩:=bsl_at hP2.sl k x hx
 have hc:=hP2.cell0
 have hk:k < ns.length:=(List.getElem?_eq_some_iff.1 hx).1
 have hz:ba zb=_:=zb_ba
 rw [hz] at hw
 have HT:=qh h2
 have HR:=qh hr
 clear hP hP2 h2 hz hx hr
 obtain ⟨q,hq⟩:∃ q,q=ns.length:=⟨_,rfl⟩
 rw [← hq] at hc hk
 clear hq
 go_enter Tryz.func100,Tryz.ntmps100
 go_wp2_with (first
  | ((with_reducible refine load_ba x _ g (off + k * 18) ?_ HR.out ?_);(rfl))
  | ((with_reducible refine store_any x _ _ _ w.heap.size ?_ ?_ HT.out.old ?_ ?_);(rfl);(rfl);(rfl)))
 exact ret_bte rfl _ x _ w.heap.size _ _ (by rfl) (by rfl) (HT.out.set x).1 ⟨rfl,(HT.out.set x).2⟩
end Go.Proofs.YtcoimipgilkmbaaGreatDoor.bk
namespace Go.Proofs.YtcoimipgilkmbaaGreatDoor.bk
set_option linter.unusedVariables false
set_option linter.unusedSimpArgs false
set_option maxRecDepth 1000000
set_option maxHeartbeats 16000000
open Go Go.ChangeShapes Go.WideShapes Go.ChangeAt Go.RowKit
open Go.Proofs.YtcoimipgilkmbaaGreatDoor.tt (U zd row tyne add_lit lt_of range_grown setCells_rest heap_setCells_other grown_setCells grown_setRow grown_new grown_drewN below_of grown_alloc grown_refl grown_trans grown_drew Sl run_append_sl append_sl step_append_sl tail_sl head_sl Pool Turn Next src_one src_one' flat flat_len flat_at flat_take flat_drop flat_append flat_one flat_single flat_erase heap_setCells)
theorem build_ba (n:Bk):Array.foldl (fun (cs:Array Value) (x:Value × Nat)=>cs.setIfInBounds x.snd x.fst) #[.int .i64 0,.int .u32 0,.int .u32 0,.int .u32 0,.int .u32 0,.int .u32 0,.int .u32 0,.int .u32 0,.int .u32 0,.int .u32 0,.int .u32 0,.int .u32 0,.int .u32 0,.int .u32 0,.int .u32 0,.int .u32 0,.int .u32 0,.bool false] (ba n).zipIdx 0 18=ba n:=by
 obtain ⟨b,d,l,hd⟩:=n
 match d,hd with
 | [d0,d1,d2,d3,d4,d5,d6,d7,d8,d9,d10,d11,d12,d13,d14,d15],_=>simp [ba,bt]
theorem pput_full (b:Nat) (v:Value) (room:Nat) (ns:List Bk) (n:Bk) (w:World) (hP:BPool w b v room ns) (hl:ns.length=room) (hr:room ≤ 65536) :
  Calls Tryz.prog 165 #[.pointer (some ⟨b,0,none⟩),.agg (ba n)] w fun e w'=>e = .returned (.int .i64 7)∧w.grownBy w' none:=by
 have HR:=qh (proom_any b v room ns (w.alloc (.cells (ba n) 156)) (hP.grown (grown_alloc (grown_refl _ _) _)) (by omega) hr)
 have h0:(room:Int) - (ns.length:Int)=0:=by omega
 rw [h0] at HR
 clear hP hl h0
 go_enter Tryz.func165,Tryz.ntmps165
 go_wp2_with (go_at_call 128;((with_reducible refine HR.out.mono ?_);rintro e w1 ⟨rfl,n,rfl⟩))
 go_ret
 exact ⟨rfl,grown_drewN (grown_alloc (grown_refl _ _) _) _⟩
theorem pput_ok (b:Nat) (v:Value) (room:Nat) (ns:List Bk) (n:Bk) (w:World) (hP:BPool w b v room ns) (hl:ns.length < room) (hr:room ≤ 65536) :
  Calls Tryz.prog 165 #[.pointer (some ⟨b,0,none⟩),.agg (ba n)] w fun e w'=>e = .returned (.int .i64 0)∧∃ v',BPool w' b v' room (ns ++ [n])∧Turn w w' b v v':=by
 obtain ⟨i0,hi,hz0,hz1,hz2⟩:=info_parts infoN
 have hg1:w.grownBy (w.alloc (.cells (ba n) 156)) none:=grown_alloc (grown_refl _ _) _
 have hP1:=hP.grown hg1
 have HR:=qh (proom_any b v room ns (w.alloc (.cells (ba n) 156)) hP1 (by omega) hr)
 have h0:((room:Int) - (ns.length:Int) == 0)=false:=by simp;omega
 have HG:=qh hg1
 have HP:=qh hP
 obtain ⟨ad,cap,rfl⟩:=hP.sl.form
 have HQ:Hid (ns.length + 1 ≤ 65536):=qh (by omega)
 have HN:Hid ((w.alloc (.cells (ba n) 156)).rangeAt w.heap.size 0 (bt n)):=qh (range_of (heap_alloc_new _ _))
 obtain ⟨q,hq⟩:∃ q,q=(room:Int) - (ns.length:Int):=⟨_,rfl⟩
 rw [← hq] at HR h0
 obtain ⟨m,hm⟩:∃ m,m=ns.length:=⟨_,rfl⟩
 have HM:=qh hm
 rw [← hm] at HP HQ
 obtain ⟨t,mm,HTT,hagg,hsize,hld⟩:=named
 have HLD:=qh hld
 clear hP hl hr hq hP1 hm hg1 hld
 rw [← HM.out] 
 go_enter Tryz.func165,Tryz.ntmps165
 go_wp2_with (first
  | (go_at_call 128;((with_reducible refine HR.out.mono ?_);rintro e w1 ⟨rfl,n1,hw1⟩;have HW:=qh hw1;have hP1:=HP.out.grown (w':=w1) (by rw [hw1];exact grown_drewN HG.out _);have hc1:=hP1.cell0;have hf1:=hP1.frozen 0;have HP1:=qh hP1;clear hw1 hP1))
  | fail)
 rw [HTT.out]
 have HL2:Hid (∀ w',w1.grownBy w' none→(loadCellsFrom ⟨w.heap.size,0,none⟩ 0 mm #[]).run Tryz.prog w' = .ok (ba n) w'):=qh fun w' h=>HLD.out _ n w' (range_grown HN.out (grown_trans (by rw [HW.out];exact grown_drewN (grown_refl _ _) _) h) (by simp))
 have hl1:=HL2.out w1.drew (grown_drew (grown_refl _ _))
 have hsz:=ba_size n
 have hfd:=build_ba n
 have hgw:w1.grownBy (w1.alloc (.cells (ba n) 156)).drew none:=grown_drew (grown_alloc (grown_refl _ _) _)
 have HSL:Hid (BSl (w1.alloc (.cells (ba n) 156)).drew (.slice ad m cap) ns):=qh (HP1.out.sl.grown hgw)
 have HSR:Hid (Src Tryz.prog 18 186 (.slice (some ⟨w1.heap.size,0,none⟩) 1 1) 1 (bt n) (w1.alloc (.cells (ba n) 156)).drew):=qh (src_one' _ w1.heap.size (ba n) _ (bt n) 18 Tryz.underlying186 (show (w1.alloc (.cells (ba n) 156)).drew.heap[w1.heap.size]?=_ from heap_alloc_new w1 _) rfl (bt_len n) (bt_one n))
 have HGW:=qh hgw
 have hc3:(w1.alloc (.cells (ba n) 156)).cell? ⟨b,0,none⟩=some (.slice ad m cap):=(HP1.out.grown hgw).cell0
 clear hgw
 go_region_law (refine step_append_sl rfl (.tmp 14) (.tmp 16) 186 186 rfl 156 18 i0 (.agg (ba zb)) 80 Tryz.underlying186 hi hz0 hz1 hz2 zb_cells (.slice ad m cap) ns.length (flat bt ns) (by simp [Act.eval]) HSL.out 1 (bt n) (by simpa [Act.eval,Act.put] using HSR.out) (by have:=HQ.out;have:=HM.out;unfold maxLen;omega) (by have:=HQ.out;have:=HM.out;omega) ?_;intro v' w2 hsl hgr hnx;obtain ⟨⟨hc2,hf2⟩,hP2,hT2⟩:=HP1.out.put HGW.out hsl hgr hnx;obtain ⟨ad',cap',rfl⟩:=hsl.form)
 all_goals
  go_wp2_with fail
  go_ret
  refine ⟨rfl,.slice ad' (ns.length + 1) cap',?_,?_⟩
  ·show Pool _ _ _ 18 b _ room (ns ++ [n]).length (flat bt (ns ++ [n]))
   rw [flat_append,flat_single,List.length_append];exact hP2
  ·rw [HW.out] at hT2
   exact (Turn.trans (Turn.of_grown b _ (grown_drewN HG.out n1)) hT2)
theorem pcut_first (b:Nat) (v:Value) (room:Nat) (ns:List Bk) (w:World) (hP:BPool w b v room ns) (hl:0 < ns.length) (hr:ns.length ≤ 65536) :
  Calls Tryz.prog 182 #[.pointer (some ⟨b,0,none⟩),.int .i64 0] w fun e w'=>(∃ u,e = .returned u)∧∃ v',BPool w' b v' room (ns.eraseIdx 0)∧Turn w w' b v v':=by
 have hsl:=hP.sl
 have hf:=hP.frozen 0
 have hc:=hP.cell0
 rcases hsl with ⟨_,h,_⟩ | ⟨g,off,cap,cur,rfl,hb,h1,h2,h3,h4,h5⟩
 ·omega
 have hsl:=hP.sl
 obtain ⟨A,hA,_,hslA,hAg⟩:=tail_sl (P:=Tryz.prog) hsl 1 (by omega) Tryz.underlying186 (bflat_one ns)
 rw [Nat.one_mul] at hA hslA
 have HSA:=qh hslA
 have HP:=qh hP
 have hcl:cap ≤ 9223372036854775807:=by unfold maxLen at h3;omega
 have HAG:=qh hAg
 have HSL:=qh hsl
 have he:(flat bt ns).drop 18=flat bt (ns.eraseIdx 0):=by
  have:=flat_erase bt_len ns 0 hl
  simpa using this
 have HE:=qh he
 obtain ⟨q,hq⟩:∃ q,q=ns.length:=⟨_,rfl⟩
 have HQ:=qh hq
 rw [← hq] at hc HSA HSL h2 hr hl
 clear hsl hP hslA hAg hb h1 h3 h4 h5 he hq
 go_enter Tryz.func182,Tryz.ntmps182
 go_wp2_with fail
 refine bodyPost_ret (results_none rfl _ _ _) rfl ?_
 obtain ⟨_,hP2,hT2⟩:=HP.out.put (wa:=w) (w2:=w) ⟨rfl,rfl,rfl,Nat.le_refl _,fun _ _ _=>rfl⟩ HSA.out ⟨rfl,rfl,rfl,Nat.le_refl _,fun _ _ _=>rfl⟩ (.inl (by simp [Value.ownBlock,HAG.out]))
 rw [HE.out] at hP2
 refine ⟨⟨_,rfl⟩,.slice (some A) (q - 1) (cap - 1),?_,hT2⟩
 have hlen:(ns.eraseIdx 0).length=q - 1:=by rw [List.length_eraseIdx_of_lt (by rw [← HQ.out];exact hl),HQ.out]
 show Pool _ _ _ 18 b _ room (ns.eraseIdx 0).length _
 rw [hlen];exact hP2
theorem pcut_mid (b:Nat) (v:Value) (room:Nat) (ns:List Bk) (k:Nat) (w:World) (hP:BPool w b v room ns) (hk0:0 < k) (hl:k < ns.length) (hr:ns.length ≤ 65536) :
  Calls Tryz.prog 182 #[.pointer (some ⟨b,0,none⟩),.int .i64 (k:Int)] w fun e w'=>(∃ u,e = .returned u)∧∃ v',BPool w' b v' room (ns.eraseIdx k)∧Turn w w' b v v':=by
 obtain ⟨i0,hi,hz0,hz1,hz2⟩:=info_parts infoN
 have hf:=hP.frozen 0
 have hc:=hP.cell0
 rcases hP.sl with ⟨_,h,_⟩ | ⟨g,off,cap,cur,rfl,hb,h1,h2,h3,h4,h5⟩
 ·omega
 have hsl:BSl w.drew _ ns:=hP.sl.of_block (fun _ _=>rfl)
 obtain ⟨A,hA,hsrc,_,hAg⟩:=tail_sl (P:=Tryz.prog) hsl (k + 1) (by omega) Tryz.underlying186 (bflat_one ns)
 have hhd:=head_sl hsl k (by omega) k (Nat.le_refl _) (by omega)
 have hcl:cap ≤ 9223372036854775807:=by unfold maxLen at h3;omega
 have hkc:k ≤ cap:=by omega
 have hkc1:k + 1 ≤ cap:=by omega
 have hkl1:k + 1 ≤ ns.length:=by omega
 have HP:=qh hP
 have HS:=qh hsrc
 have HH:=qh hhd
 have HE:=qh (flat_erase bt_len ns k hl)
 have HK:Hid (k + (ns.length - (k + 1)) ≤ 65536):=qh (by omega)
 have HN:Hid ((ns.eraseIdx k).length=k + (ns.length - (k + 1))):=qh (by rw [List.length_eraseIdx_of_lt hl];omega)
 have hw:IntKind.i64.wrap ((k:Int) + 1)=((k:Int) + 1):=by simp [IntKind.wrap,IntKind.bits,IntKind.signed];omega
 have ht:((k:Int) + 1).toNat=k + 1:=by omega
 have hk1:0 ≤ (k:Int) + 1:=by omega
 have hk2:(k:Int) + 1 ≤ (ns.length:Int):=by omega
 clear hsl hP hsrc hhd hb h1 h2 h3 h4 h5 hAg
 go_enter Tryz.func182,Tryz.ntmps182
 go_wp2_with fail
 go_region_law (refine step_append_sl rfl (.tmp 21) (.tmp 28) 186 186 rfl 156 18 i0 (.agg (ba zb)) 80 Tryz.underlying186 hi hz0 hz1 hz2 zb_cells (.slice (some ⟨g,off,none⟩) k k) k ((flat bt ns).take (k * 18)) (by simp [Act.eval,Act.put]) HH.out _ _ HS.out (by have:=HK.out;unfold maxLen;omega) (by have:=HK.out;omega) ?_;intro v' w2 hsl hgr hnx;obtain ⟨⟨hc2,hf2⟩,hP2,hT2⟩:=(HP.out.drewN 1).put (wa:=w.drewN 1) ⟨rfl,rfl,rfl,Nat.le_refl _,fun _ _ _=>rfl⟩ hsl hgr hnx;obtain ⟨ad',cap',rfl⟩:=hsl.form)
 all_goals
  go_end0
  rw [HE.out,← HN.out] at hP2
  rw [← HN.out] at hT2
  exact ⟨⟨_,rfl⟩,_,by rw [← HN.out];exact hP2,by rw [← HN.out];exact hT2.drewN⟩
theorem pcut_any (b:Nat) (v:Value) (room:Nat) (ns:List Bk) (k:Nat) (w:World) (hP:BPool w b v room ns) (hl:k < ns.length) (hr:ns.length ≤ 65536) :
  Calls Tryz.prog 182 #[.pointer (some ⟨b,0,none⟩),.int .i64 (k:Int)] w fun e w'=>(∃ u,e = .returned u)∧∃ v',BPool w' b v' room (ns.eraseIdx k)∧Turn w w' b v v':=by
 by_cases h0:k=0
 ·subst h0;exact pcut_first b v room ns w hP hl hr
 ·exact pcut_mid b v room ns k w hP (by omega) hl hr
end Go.Proofs.YtcoimipgilkmbaaGreatDoor.bk
namespace Go.Proofs.YtcoimipgilkmbaaGreatDoor.bk
set_option linter.unusedVariables false
set_option linter.unusedSimpArgs false
set_option maxRecDepth 1000000
set_option maxHeartbeats 16000000
open Go Go.ChangeShapes Go.WideShapes Go.ChangeAt Go.RowKit
open Go.Proofs.YtcoimipgilkmbaaGreatDoor.tt (U zd row tyne add_lit lt_of range_grown setCells_rest heap_setCells_other grown_setCells grown_setRow grown_new grown_drewN below_of grown_alloc grown_refl grown_trans grown_drew Sl run_append_sl append_sl step_append_sl tail_sl head_sl Pool Turn Next src_one src_one' flat flat_len flat_at flat_take flat_drop flat_append flat_one flat_single flat_erase heap_setCells)
theorem onez (w:World):∃ w2,w.alloc (.cells (ba zb) 156)=w2∧w.grownBy w2 none∧w2.heap[w.heap.size]?=some (.cells (ba zb) 156 (0,0))∧w2.heap.size=w.heap.size + 1:=
 ⟨_,rfl,grown_alloc (grown_refl _ _) _,heap_alloc_new _ _,by simp⟩
theorem set_res {w w2:World} (hg:w.grownBy w2 none) {c:Array Value} (hb:w2.heap[w.heap.size]?=some (.cells c 156 (0,0))) (m:Bk):(w2.setRow w.heap.size (ba m)).rangeAt w.heap.size 0 (bt m)∧w.grownBy (w2.setRow w.heap.size (ba m)) none:=
 ⟨range_of (setRow_heap _ _ _ _ _ _ hb),grown_setRow hg _ (Nat.le_refl _) _⟩
theorem ptake_out (b:Nat) (v:Value) (room:Nat) (ns:List Bk) (i:Int) (w:World) (hP:BPool w b v room ns) (h:i < 0 ∨ (ns.length:Int) ≤ i):Calls Tryz.prog 180 #[.pointer (some ⟨b,0,none⟩),.int .i64 i] w fun e w'=>e = .returned (.tuple #[.agg (ba zb),.int .i64 5])∧w.grownBy w' none:=by
 obtain ⟨w2,hw,hg2,hb2,hs2⟩:=onez w
 have hz:ba zb=_:=zb_ba
 rw [hz] at hw
 have HA:=qh (pat_out b v room ns i w2 (hP.grown hg2) h)
 have HG:=qh hg2
 have HB:=qh hb2
 have HS:=qh hs2
 clear hP h hz hg2 hb2 hs2
 go_enter Tryz.func180,Tryz.ntmps180
 go_wp2_with (first
  | (go_at_call 100;((with_reducible refine HA.out.mono ?_);rintro e w3 ⟨rfl,hg3⟩;have HG3:=qh hg3;clear hg3))
  | ((with_reducible refine store_new zb _ _ _ ?_ ?_ ?_ ?_);(rfl);(rfl);(rfl))
  | ((with_reducible refine load_bt zb _ w3.heap.size ?_ (range_of (heap_alloc_new _ _)) ?_);(rfl))
  | ((with_reducible refine store_any zb _ _ _ w.heap.size ?_ ?_ ((grown_alloc HG3.out _).block w.heap.size (by rw [HS.out];omega) (by simp) |>.trans HB.out) ?_ ?_);(rfl);(rfl);(rfl)))
 have hgg:=grown_trans HG.out (grown_alloc HG3.out (.cells (ba zb) 156))
 have hres:=set_res hgg ((grown_alloc HG3.out _).block w.heap.size (by rw [HS.out];omega) (by simp) |>.trans HB.out) zb
 exact ret_bte rfl _ zb _ w.heap.size _ _ (by rfl) (by rfl) hres.1 ⟨rfl,hres.2⟩
theorem ptake_in (b:Nat) (v:Value) (room:Nat) (ns:List Bk) (k:Nat) (x:Bk) (w:World) (hP:BPool w b v room ns) (hx:ns[k]?=some x) (hr:ns.length ≤ 65536) :
  Calls Tryz.prog 180 #[.pointer (some ⟨b,0,none⟩),.int .i64 (k:Int)] w fun e w'=>e = .returned (.tuple #[.agg (ba x),.int .i64 0])∧∃ v',BPool w' b v' room (ns.eraseIdx k)∧Turn w w' b v v':=by
 obtain ⟨w2,hw,hg2,hb2,hs2⟩:=onez w
 have hz:ba zb=_:=zb_ba
 rw [hz] at hw
 have hP2:=hP.grown hg2
 have HA:=qh (pat_in b v room ns k x w2 hP2 hx)
 have HC:Hid (∀ w',w2.grownBy w' none→_):=qh fun w' h=>pcut_any b v room ns k w' (hP2.grown h) (List.getElem?_eq_some_iff.1 hx).1 hr
 have HG:=qh hg2
 have HB:=qh hb2
 have HS:=qh hs2
 have hbw:=hP.lt
 have HV:=qh hP.sl.lt
 have HT:Hid (∀ g,v.ownBlock=some g→∃ cur,w.heap[g]?=some (.cells cur 156 (0,0))):=qh hP.sl.type
 clear hP hP2 hx hz hg2 hb2 hs2 hr
 go_enter Tryz.func180,Tryz.ntmps180
 go_wp2_with (first
  | (go_at_call 100;((with_reducible refine HA.out.mono ?_);rintro e w3 ⟨rfl,hg3⟩;have HG3:=qh (grown_alloc hg3 (.cells (ba x) 156));have HZ3:=qh hg3.size;clear hg3))
  | ((with_reducible refine store_new x _ _ _ ?_ ?_ ?_ ?_);(rfl);(rfl);(rfl))
  | (go_at_call 182;((with_reducible refine (HC.out _ HG3.out).mono ?_);rintro e w4 ⟨⟨u,rfl⟩,v',hP4,hT4⟩;have HP4:=qh hP4;have HT4:=qh hT4;have HX4:Hid (w4.heap[w3.heap.size]?=some (.cells (ba x) 156 (0,0))):=qh ((hT4.block w3.heap.size (by simp) (by have:=HZ3.out;have:=HS.out;omega) (fun e=>by have:=HV.out _ e.symm;have:=HZ3.out;have:=HS.out;omega)).trans (heap_alloc_new _ _));have HB4:Hid (w4.heap[w.heap.size]?=some (.cells (ba zb) 156 (0,0))):=qh ((hT4.block w.heap.size (by have:=HZ3.out;have:=HS.out;simp;omega) (by omega) (fun e=>by have:=HV.out _ e.symm;omega)).trans ((HG3.out.block w.heap.size (by rw [HS.out];omega) (by simp)).trans HB.out));clear hP4 hT4))
  | ((with_reducible refine load_bt x _ w3.heap.size ?_ (range_of HX4.out) ?_);(rfl))
  | ((with_reducible refine store_any x _ _ _ w.heap.size ?_ ?_ HB4.out ?_ ?_);(rfl);(rfl);(rfl)))
 refine ret_bte rfl _ x _ w.heap.size _ _ (by rfl) (by rfl) (range_of (setRow_heap _ _ _ _ _ _ HB4.out)) ⟨rfl,v',?_,?_⟩
 ·exact HP4.out.of_block (setRow_other _ _ _ _ (by omega)) (fun g hg=>setRow_other _ _ _ _ (fun e=>by
   rcases HT4.out.next with h | h
   ·rw [h] at hg;have:=HV.out g hg;omega
   ·have h1:=h g hg;have:=HZ3.out;have:=HS.out;simp at h1;omega))
 ·have hT:=Turn.trans (Turn.of_grown b v (grown_trans HG.out HG3.out)) HT4.out
  exact ⟨hT.os,hT.tape,hT.output,by have:=hT.size;simp;omega,fun i hi hp hv=>(setRow_other _ _ _ _ (by omega)).trans (hT.block i hi hp hv),hT.next⟩
theorem Sl.empty (w:World) (e:TypeId) (s:Nat):Sl (w.alloc (.cells #[] e)) e s (.slice (some ⟨w.heap.size,0,none⟩) 0 0) 0 []:=
 .inr ⟨w.heap.size,0,0,#[],rfl,heap_alloc_new w _,by simp,Nat.le_refl _,by unfold maxLen;omega,by simp,fun k x hk=>by simp at hk⟩
theorem nclone_any (v:Value) (ns:List Bk) (w:World) (hs:BSl w v ns) (hl:ns.length ≤ 65536) :
  Calls Tryz.prog 146 #[v] w fun e w'=>∃ v',e = .returned v'∧BSl w' v' ns∧w.grownBy w' none∧∀ k,v'.ownBlock=some k→w.heap.size ≤ k:=by
 obtain ⟨i0,hi,hz0,hz1,hz2⟩:=info_parts infoN
 have q50:∀ (w:World) (a:Option Addr) (n c n' c':Nat),(binOp .eql 186 (.slice a n c) (.slice none n' c')).run Tryz.prog w = .ok (.bool a.isNone) w:=fun w a n c n' c'=>Lib.run_eql_slice_nil w _ _ a n c n' c' Tryz.underlying186
 have HS:=qh hs
 have HL:=qh hl
 rcases hs with ⟨rfl,h0,h⟩ | ⟨g,off,cap,cur,hv,_⟩
 ·have HX:=qh h
  have H0:=qh h0
  clear h h0 hl
  go_enter Tryz.func146,Tryz.ntmps146
  go_wp2
  go_ret
  refine ⟨_,rfl,?_,⟨rfl,rfl,rfl,Nat.le_refl _,fun _ _ _=>rfl⟩,fun k hk=>by simp [Value.ownBlock] at hk⟩
  exact HS.out
 ·obtain ⟨n0,hn0⟩:∃ n,n=ns.length:=⟨_,rfl⟩
  rw [← hn0] at hv
  subst hv
  have HN:=qh hn0
  clear hl hn0
  go_enter Tryz.func146,Tryz.ntmps146
  go_wp2_with ((with_reducible refine append_sl 186 156 18 i0 (.agg (ba zb)) 80 _ _ Tryz.underlying186 hi hz0 hz1 hz2 zb_cells (.slice (some ⟨w.heap.size,0,none⟩) 0 0) 0 [] ?_ (Sl.empty w _ 18) (.slice (some ⟨g,off,none⟩) n0 cap) ns.length (flat bt ns) ?_ ((HS.out.grown (grown_alloc (grown_refl _ _) _)).src Tryz.underlying186 (bflat_one ns)) ?_ ?_ ?_);(rfl);(rfl);(have:=HL.out;unfold maxLen;omega);(have:=HL.out;omega);(intro v' w2 hsl hgr hnx;rw [Nat.zero_add,List.nil_append] at hsl))
  go_ret
  refine ⟨v',rfl,hsl,⟨hgr.os,hgr.tape,hgr.output,?_,fun k hk _=>?_⟩,fun k hk=>?_⟩
  ·have:=hgr.size;simp at this;omega
  ·exact (hgr.block k (by simp;omega) (by simp [Value.ownBlock];omega)).trans (Below.heap_alloc _ _ _ hk)
  ·rcases hnx with h | h
   ·rw [h] at hk;simp [Value.ownBlock] at hk;omega
   ·have:=h k hk;simp at this;omega
theorem pcopy_any (b:Nat) (v:Value) (room:Nat) (ns:List Bk) (w:World) (hP:BPool w b v room ns) (hl:ns.length ≤ 65536) :
  Calls Tryz.prog 104 #[.pointer (some ⟨b,0,none⟩)] w fun e w'=>∃ b' v',e = .returned (.pointer (some ⟨b',0,none⟩))∧w.heap.size ≤ b'∧BPool w' b' v' room ns∧w.grownBy w' none∧∀ k,v'.ownBlock=some k→w.heap.size ≤ k:=by
 have hc:=hP.cell0
 have hc1:=hP.cell1
 obtain ⟨ad0,cap0,rfl⟩:=hP.sl.form
 have HC:=qh (nclone_any _ ns w.drew (hP.sl.of_block (fun _ _=>rfl)) hl)
 have HP:=qh hP
 clear hP hl
 go_enter Tryz.func104,Tryz.ntmps104
 go_wp2_with fail
 go_region_with (go_at_call 146;((with_reducible refine HC.out.mono ?_);rintro e w2 ⟨v',rfl,hsl2,hgr2,hfr2⟩;have hc2:=hgr2.cell (show w.drew.cell? ⟨b,1,none⟩=_ from hc1) (by simp);obtain ⟨ad',cap',rfl⟩:=hsl2.form))
 all_goals
  go_wp2_with fail
  go_ret
  have hs2:=hgr2.size
  have hr2:w2.heap.size ≠ 0:=by have:=HP.out.lt;simp at hs2;omega
  refine ⟨_,_,rfl,by simpa using hs2,⟨heap_alloc_new _ _,hsl2.of_block (fun g hg=>Below.heap_alloc _ _ _ (hsl2.lt g hg)),fun e=>by have:=hsl2.lt _ e.symm;omega⟩,⟨hgr2.os,hgr2.tape,hgr2.output,by simp at hs2 ⊢;omega,fun k hk h=>?_⟩,hfr2⟩
  exact (Below.heap_alloc _ _ _ (by simp at hs2;omega)).trans (hgr2.block k hk h)
end Go.Proofs.YtcoimipgilkmbaaGreatDoor.bk
namespace Go.Proofs.YtcoimipgilkmbaaGreatDoor.bk
set_option linter.unusedVariables false
set_option linter.unusedSimpArgs false
set_option maxRecDepth 1000000
set_option maxHeartbeats 16000000
open Go Go.RowKit Go.Shelf
open Go.Proofs.YtcoimipgilkmbaaGreatDoor.tt (U zd row tyne add_lit lt_of range_grown setCells_rest heap_setCells_other grown_setCells grown_setRow grown_new grown_drewN below_of grown_alloc grown_refl grown_trans grown_drew Sl run_append_sl append_sl step_append_sl tail_sl head_sl Pool Turn Next src_one src_one' flat flat_len flat_at flat_take flat_drop flat_append flat_one flat_single flat_erase heap_setCells)
attribute [local go_sem] Oper.semAt_some
def Same (v:Value) (A B:World):Prop:=∀ k,v.ownBlock=some k→B.heap[k]?=A.heap[k]?
theorem Same.refl (v:Value) (A:World):Same v A A:=fun _ _=>rfl
theorem Same.trans {v:Value} {A B C:World} (h:Same v A B) (k:Same v B C):Same v A C:=fun i hi=>(k i hi).trans (h i hi)
theorem Same.put {v:Value} {w:World} (hv:∀ k,v.ownBlock=some k→k < w.heap.size) (W:World) (l:Nat) (o o':Obj) (hl:w.heap.size ≤ l) (h:W.heap[l]?=some o) (_:o.isCells=false) (_:o.isWalk=false):Same v W (W.putObj l o'):=
 fun k hk=>World.putObj_heap_other (by have:=hv k hk;omega)
theorem Same.of_grown {v:Value} {A B:World} (hv:∀ k,v.ownBlock=some k→k < A.heap.size) (h:A.grownBy B none):Same v A B:=fun k hk=>h.block k (hv k hk) (by simp)
theorem take_snoc {α:Type} (l:List α) (k:Nat) (x:α) (h:l[k]?=some x):l.take (k + 1)=l.take k ++ [x]:=by
 rw [List.take_add_one,h];rfl
theorem wide_fn (f:FuncId):Fence.wide.fn f=True:=rfl
attribute [local simp] wide_fn
section
variable {F:Fence} {n:Nat} {w:World} {ops:Array Oper} {rest:List Oper} {a:Act} {Q:Exit→Act→World→Prop} {dst:Option Tmp} {ty:TypeId} {pos:String} {after:Array Edge}
theorem load_baI (l:Bk) (x:Tmp) (g o:Nat) (hx:a.eval (.tmp x) = .pointer (some ⟨g,o,none⟩)) (hg:w.rangeAt g o (bt l))
  (h:wpListIn F n Tryz.prog ops Q rest (a.put dst (.agg (ba l))) w):wpListIn F n Tryz.prog ops Q (⟨dst,.load 156 (.tmp x),ty,pos,after,none⟩ :: rest) a w:=by
 refine wpListIn_plain rfl fun K hK'=>?_
 have hrun:=run_loadAt_mid (P:=Tryz.prog) w g o 156 (bt l) _ hg Tryz.underlying156 rfl (info31' l)
 unfold Oper.wpIn
 refine ⟨?_,?_⟩
 ·intro f hf;simp [Oper.about] at hf
 ·rw [Oper.semAt_plain F _ _ (by intro c hc';cases hc')]
  simp only [execOp,hx,Sem.run_bind,hrun,Result.andThen_ok,Sem.run_pure]
  exact hK' _ _ h
theorem store_newI (l:Bk) (A:Array Value) (hA:ba zb=A) (x y:Tmp) (hx:a.eval (.tmp x) = .pointer (some ⟨w.heap.size,0,none⟩)) (hy:a.eval (.tmp y) = .agg (ba l))
  (h:wpListIn F n Tryz.prog ops Q rest (a.put dst undef) (w.alloc (.cells (ba l) 156))):wpListIn F n Tryz.prog ops Q (⟨dst,.store 156 (.tmp x) (.tmp y),ty,pos,after,none⟩ :: rest) a (w.alloc (.cells A 156)):=by
 subst hA
 refine wpListIn_plain rfl fun K hK'=>?_
 have hrun:=run_storeAt_new (P:=Tryz.prog) w 156 (ba zb) (ba l) (info31a l) (by rw [ba_size,ba_size]) (ba_one l)
 unfold Oper.wpIn
 refine ⟨?_,?_⟩
 ·intro f hf;simp [Oper.about] at hf
 ·rw [Oper.semAt_plain F _ _ (by intro c hc';cases hc')]
  simp only [execOp,hx,hy,Sem.run_bind,hrun,Result.andThen_ok,Sem.run_pure]
  exact hK' _ _ h
end
def encB (p:Bk × Nat):Array Value:=#[.int .i64 (p.2:Int),.agg (ba p.1)]
theorem pall1_in (n:Nat) (hn:1 ≤ n) (l Bn b B0:Nat) (v:Value) (ns:List Bk) (J Jx:List (Bk × Nat)→World→Prop) (hl:ns.length ≤ 65536) (hA:AbidesFrom B0 J)
  (hY:∀ (pre:List (Bk × Nat)) (x:Bk × Nat) W,J pre W→pre.length < ns.length→YieldAt Fence.wide (n - 1) Tryz.prog l (encB x) W fun e W'=>
   (e = .returned (.bool true)∧J (pre ++ [x]) W'∧Same v W W') ∨ (e = .returned (.bool false)∧Jx (pre ++ [x]) W'))
  (W:World) (hBn:W.cell? ⟨Bn,0,none⟩=some (.pointer (some ⟨b,0,none⟩))) (hb:W.cell? ⟨b,0,none⟩=some v) (hs:BSl W v ns) (h0:J [] W) :
  CallsIn Fence.wide n Tryz.prog 181 #[.func (.yield l) #[] #[],.pointer (some ⟨Bn,0,none⟩)] W fun e W'=>(∃ v,e = .returned v) ∧
   ((∃ ys,ys=ns.zipIdx∧J ys W') ∨ (∃ pre,pre <+: ns.zipIdx∧Jx pre W')):=by
 obtain ⟨ad,cap,hv⟩:=hs.form
 obtain ⟨q,hq⟩:∃ q,q=ns.length:=⟨_,rfl⟩
 rw [← hq] at hv hl hY
 have HQ:=qh hq
 have HS:=qh hs
 have HJ:Hid (∀ s W W',J s W→W.grownBy W' none→J s W'):=qh fun s W W' h1 h2=>hA s W W' none h1 h2 (fun r e=>by cases e)
 have HV:Hid (∀ k,v.ownBlock=some k→k < W.heap.size):=qh hs.lt
 have HZ:Hid (ba zb=_):=qh (zb_ba)
 clear hq hs hA
 subst hv
 refine callsIn_of_wp Tryz.func181 rfl trivial ?_ rfl
 simp only [Tryz.ntmps181,List.size_toArray,List.length_cons,List.length_nil,Nat.reduceAdd,Nat.reduceSub,Array.replicate_succ,Array.replicate_zero,List.push_toArray,List.append_toArray,List.nil_append,List.cons_append]
 gi_wp2
 gi_loopw [12] (fun i wr=>∃ (k:Nat),k ≤ q∧i = .int .i64 (k:Int)∧BSl wr (.slice ad q cap) ns∧J (ns.zipIdx.take k) wr)
  (fun i _=>q - (intOf i).toNat)
 case atStart=>
  exact ⟨0,Nat.zero_le _,rfl,HS.out,h0⟩
 case round=>
  obtain ⟨k,hk,rfl,hsr,hJ⟩:=hrel
  by_cases hlt:k < q
  ·obtain ⟨x,hx⟩:∃ x,ns[k]?=some x:=⟨_,List.getElem?_eq_getElem (by have:=HQ.out;omega)⟩
   obtain ⟨g,off,rfl,hqq,hr⟩:=bsl_at hsr k x hx
   clear hqq
   have hz:ns.zipIdx[k]?=some (x,k):=by simp [List.getElem?_zipIdx,hx]
   have hg1:wr.grownBy (wr.alloc (.cells (ba x) 156)) none:=grown_alloc (grown_refl _ _) _
   obtain ⟨fn,tmps,assign,body,hy,hR⟩:=hY (ns.zipIdx.take k) (x,k) _ (HJ.out _ _ _ hJ hg1) (by rw [List.length_take];omega)
   have HZ2:=qh (take_snoc ns.zipIdx k (x,k) hz)
   have HSR:=qh (hsr.grown hg1)
   have HRX:=qh hr
   have HN:Hid ((wr.alloc (.cells (ba x) 156)).rangeAt wr.heap.size 0 (bt x)):=qh (range_of (heap_alloc_new _ _))
   unfold encB at hy
   dsimp only at hy
   clear hx hz hsr hY hr hg1
   gi_wp2_with (first
    | ((with_reducible refine load_baI x _ g (off + k * 18) ?_ HRX.out ?_);(rfl))
    | ((with_reducible refine store_newI x _ HZ.out _ _ ?_ ?_ ?_);(rfl);(rfl))
    | ((with_reducible refine load_baI x _ wr.heap.size 0 ?_ HN.out ?_);(rfl)))
   refine hR.mono ?_
   rintro e W3 (⟨rfl,hJ3,hk3⟩ | ⟨rfl,hJx3⟩)
   ·have HS3:=qh (HSR.out.of_block hk3)
    gi_wp2
    go_roundw
    case rel=>exact ⟨k + 1,by omega,by go_num,HS3.out,by rw [HZ2.out];exact hJ3⟩
    case measure=>simp [intOf];omega
   ·gi_wp2
    refine bodyPost_ret (results_none rfl _ _ _) rfl ?_
    exact ⟨⟨_,rfl⟩,.inr ⟨_,by rw [← HZ2.out];exact List.take_prefix _ _,hJx3⟩⟩
  ·have hkn:k=q:=by omega
   subst hkn
   gi_wp2
   go_end0
   exact ⟨⟨_,rfl⟩,.inl ⟨_,by rw [List.take_of_length_le (by rw [List.length_zipIdx];have:=HQ.out;omega)],hJ⟩⟩
theorem pall_in (n:Nat) (b:Nat) (w:World) :
  CallsIn Fence.wide n Tryz.prog 171 #[.pointer (some ⟨b,0,none⟩)] w fun e w'=>e = .returned (.func (.func 181) #[] #[.pointer (some ⟨w.heap.size,0,none⟩)])∧w'=w.alloc (.cells #[.pointer (some ⟨b,0,none⟩)] 152):=by
 refine callsIn_of_wp Tryz.func171 rfl trivial ?_ rfl
 simp only [Tryz.ntmps171,List.size_toArray,List.length_cons,List.length_nil,Nat.reduceAdd,Nat.reduceSub,Array.replicate_succ,Array.replicate_zero,List.push_toArray,List.append_toArray,List.nil_append,List.cons_append]
 gi_wp2
 go_ret
 exact ⟨rfl,rfl⟩
theorem pall_stops (n:Nat) (hn:1 ≤ n) (Bn b:Nat) (v:Value) (room:Nat) (ns:List Bk) (w:World) (hP:BPool w b v room ns) (hl:ns.length ≤ 65536) (hc:w.cell? ⟨Bn,0,none⟩=some (.pointer (some ⟨b,0,none⟩))) :
  SeqStopsK Fence.wide n Tryz.prog 181 #[.pointer (some ⟨Bn,0,none⟩)] encB (Same v) (fun ys=>ys=ns.zipIdx) (fun pre=>pre <+: ns.zipIdx) ns.length w:=fun l J Jx W hW hJ _ hY h0=>
 pall1_in n hn l Bn b W.heap.size v ns J Jx hl hJ hY W ((hW.cell (p:=⟨Bn,0,none⟩) (World.block_lt_of_cell? w _ hc)).trans hc) ((hW.cell (p:=⟨b,0,none⟩) hP.lt).trans hP.cell0) (hP.sl.of_block fun g hg=>hW.block g (hP.sl.lt g hg)) h0
end Go.Proofs.YtcoimipgilkmbaaGreatDoor.bk
namespace Go.Proofs.YtcoimipgilkmbaaGreatDoor.bk
set_option linter.unusedVariables false
set_option linter.unusedSimpArgs false
set_option maxRecDepth 1000000
set_option maxHeartbeats 16000000
open Go Go.RowKit Go.Shelf
open Go.Proofs.YtcoimipgilkmbaaGreatDoor.tt (U zd row tyne add_lit lt_of range_grown grown_setCells grown_setRow grown_new grown_drewN below_of grown_alloc grown_refl grown_trans grown_drew Sl Pool Turn Next flat)
attribute [local go_sem] Oper.semAt_some
attribute [local simp] wide_fn
def ff (xs:List Bk) (X:Int) (k:Nat):Int:=match (xs.drop k).findIdx? (fun x=>x.b == X) with | some j=>((k + j:Nat):Int) | none=>-1
theorem ff_hit {xs:List Bk} {x:Bk} {k:Nat} (h:xs[k]?=some x):ff xs x.b k=(k:Int):=by
 obtain ⟨hk,e⟩:=List.getElem?_eq_some_iff.1 h
 unfold ff
 rw [List.drop_eq_getElem_cons hk,e,List.findIdx?_cons]
 simp
theorem ff_miss {xs:List Bk} {X:Int} {x:Bk} {k:Nat} (h:xs[k]?=some x) (hne:x.b ≠ X):ff xs X k=ff xs X (k + 1):=by
 obtain ⟨hk,e⟩:=List.getElem?_eq_some_iff.1 h
 unfold ff
 rw [List.drop_eq_getElem_cons hk,e,List.findIdx?_cons]
 have:(x.b == X)=false:=by simp [hne]
 simp only [this]
 cases (List.drop (k + 1) xs).findIdx? (fun x=>x.b == X) with
 | none=>simp
 | some j=>simp;omega
theorem ff_end {xs:List Bk} {X:Int} {k:Nat} (h:xs.length ≤ k):ff xs X k=-1:=by
 unfold ff
 rw [List.drop_of_length_le h];rfl
theorem ff_skip (xs:List Bk) (X:Int):∀ j,j ≤ xs.length→(∀ i x,i < j→xs[i]?=some x→x.b ≠ X)→ff xs X 0=ff xs X j
 | 0,_,_=>rfl
 | j + 1,hj,h=>by
  rw [ff_skip xs X j (by omega) (fun i x hi=>h i x (by omega))]
  exact ff_miss (List.getElem?_eq_getElem (by omega)) (h j _ (by omega) (List.getElem?_eq_getElem (by omega)))
theorem zip_pre {xs:List Bk} {pre:List (Bk × Nat)} {X:Int} (h:pre <+: xs.zipIdx) (hne:∀ p ∈ pre,p.1.b ≠ X):pre.length ≤ xs.length∧∀ i x,i < pre.length→xs[i]?=some x→x.b ≠ X:=by
 have hl:=h.length_le
 rw [List.length_zipIdx] at hl
 refine ⟨hl,fun i x hi hx=>?_⟩
 have h1:pre[i]?=some (x,i):=by
  rw [List.prefix_iff_getElem?] at h
  have:=h i hi
  rw [List.getElem?_zipIdx,hx] at this
  rw [List.getElem?_eq_getElem hi,← this];simp
 exact hne _ (List.mem_of_getElem? h1)
theorem ff_all {xs:List Bk} {X:Int} (hne:∀ p ∈ xs.zipIdx,p.1.b ≠ X):ff xs X 0=-1:=by
 obtain ⟨h1,h2⟩:=zip_pre (List.prefix_refl xs.zipIdx) hne
 rw [ff_skip xs X xs.length (Nat.le_refl _) (fun i x hi=>h2 i x (by rw [List.length_zipIdx];exact hi)),ff_end (Nat.le_refl _)]
theorem ff_at {xs:List Bk} {X:Int} {pre:List (Bk × Nat)} {x:Bk × Nat} (h:pre ++ [x] <+: xs.zipIdx) (hne:∀ p ∈ pre,p.1.b ≠ X) (hx:x.1.b=X):ff xs X 0=(x.2:Int):=by
 obtain ⟨h1,h2⟩:=zip_pre ((List.prefix_append pre [x]).trans h) hne
 rw [ff_skip xs X pre.length h1 h2]
 rw [List.prefix_iff_getElem?] at h
 have h3:=h pre.length (by simp)
 simp [List.getElem?_zipIdx] at h3
 obtain ⟨y,hy,he⟩:=h3
 subst he
 simp at hx
 subst hx
 exact ff_hit hy
theorem boxed_from {B:Nat} {β:Type} (k:Nat) (t:TypeId) (f:β→Value):OwnFrom B (fun s W=>Boxed W k t (f s)):=fun s A B' row hs hg hr=>hs.kept hg fun e=>by
 obtain ⟨hb,o,ho,hc⟩:=hr k e.symm
 rw [show A.heap[k]?=_ from hs] at ho;cases ho;cases hc
theorem results_box {P:Program} {fn:Func} {p:Tmp} {ty:TypeId} (h:fn.results=#[.cell p ty]) (hagg:∀ w,(isAgg ty).run P w = .ok false w) (tmps:Array Value) (w:World) (a:Addr) (v:Value)
  (hp:tmps.getD p undef = .pointer (some a)) (hc:w.cell? a=some v):(results fn tmps).run P w = .ok v w:=by
 have hl:(load a).run P w = .ok v w:=by simp [go_sem,hc]
 simp only [results,h]
 have hp':tmps[p]?.getD undef = .pointer (some a):=by simpa using hp
 simp [Sem.run_bind,loadVar,asAddr,hp',hagg,hc,Result.andThen]
theorem agg3:∀ w,(isAgg 3).run Tryz.prog w = .ok false w:=fun _=>by kernel_rfl
theorem is_in (n:Nat) (y:Bk) (X:Int) (o:Nat) (w:World) (h:w.cell? ⟨o,0,none⟩=some (.int .i64 X)) :
  CallsIn Fence.wide n Tryz.prog 145 #[.agg (ba y),.pointer (some ⟨o,0,none⟩)] w fun e w'=>e = .returned (.bool (y.b == X))∧w.grownBy w' none:=by
 have hg:w.grownBy (w.alloc (.cells (ba y) 156)) none:=grown_alloc (grown_refl _ _) _
 have c0:=box w y 0 _ rfl
 have d0:=hg.cell h (by simp)
 have HG:=qh hg
 clear h hg
 refine callsIn_of_wp Tryz.func145 rfl trivial ?_ rfl
 simp only [Tryz.ntmps145,List.size_toArray,List.length_cons,List.length_nil,Nat.reduceAdd,Nat.reduceSub,Array.replicate_succ,Array.replicate_zero,List.push_toArray,List.append_toArray,List.nil_append,List.cons_append]
 gi_wp2
 go_ret
 exact ⟨rfl,HG.out⟩
theorem first_any (b o:Nat) (v:Value) (room:Nat) (xs:List Bk) (X:Int) (w:World) (hP:BPool w b v room xs) (hl:xs.length ≤ 65536) (ho:w.cell? ⟨o,0,none⟩=some (.int .i64 X)) :
  Calls Tryz.prog 144 #[.pointer (some ⟨b,0,none⟩),.func (.func 145) #[] #[.pointer (some ⟨o,0,none⟩)]] w fun e W'=>e = .returned (.int .i64 (ff xs X 0))∧Below w.heap.size w W':=by
 refine (callsIn_wide (n:=5)).1 ?_
 have hnil:∀ w:World,(binOp BinOp.eql 206 (.func (.func 145) #[] #[.pointer (some ⟨o,0,none⟩)]) .nilFunc).run Tryz.prog w = .ok (.bool false) w:=fun _=>by kernel_rfl
 have HP:=qh hP
 have HL:=qh hl
 have HO:=qh ho
 have hol:=World.block_lt_of_cell? w _ ho
 have HZ:Hid (ba zb=_):=qh zb_ba
 clear hP hl ho
 refine callsIn_of_wp_marks Tryz.func144 rfl trivial ?_ rfl
 simp only [Tryz.ntmps144,List.size_toArray,List.length_cons,List.length_nil,Nat.reduceAdd,Nat.reduceSub,Array.replicate_succ,Array.replicate_zero,List.push_toArray,List.append_toArray,List.nil_append,List.cons_append]
 gi_wp2_with (gi_at_call 171;refine (pall_in _ _ _).mono ?_;rintro e w' ⟨rfl,rfl⟩)
 clear hnil
 have b1:=Boxed.new w 206 (Value.func (.func 145) #[] #[.pointer (some ⟨o,0,none⟩)])
 have b2:=Boxed.new (w.alloc (.cells #[(Value.func (.func 145) #[] #[.pointer (some ⟨o,0,none⟩)])] 206)) 3 (.int .i64 0)
 have b3:=Boxed.new ((w.alloc (.cells #[(Value.func (.func 145) #[] #[.pointer (some ⟨o,0,none⟩)])] 206)).alloc (.cells #[.int .i64 0] 3)) 152 (.pointer (some ⟨b,0,none⟩))
 rw [World.size_alloc] at b2
 rw [World.size_alloc,World.size_alloc] at b3
 have c1:=(b1.alloc (.cells #[.int .i64 0] 3)).alloc (.cells #[.pointer (some ⟨b,0,none⟩)] 152)
 have c2:=b2.alloc (.cells #[.pointer (some ⟨b,0,none⟩)] 152)
 obtain ⟨W0,hW0⟩:∃ W0,W0=(((w.alloc (.cells #[(Value.func (.func 145) #[] #[.pointer (some ⟨o,0,none⟩)])] 206)).alloc (.cells #[.int .i64 0] 3)).alloc (.cells #[.pointer (some ⟨b,0,none⟩)] 152)):=⟨_,rfl⟩
 have hB0:Below w.heap.size w W0:=by
  rw [hW0];exact (((Below.refl _ _).alloc (Nat.le_refl _) _).alloc (by simp) _).alloc (by simp;omega) _
 have hPW:BPool W0 b v room xs:=HP.out.of_block (hB0.block b HP.out.lt) (fun g hg=>hB0.block g (HP.out.sl.lt g hg))
 have HV:Hid (∀ k,v.ownBlock=some k→k < w.heap.size):=qh HP.out.sl.lt
 clear b1 b2
 rw [← hW0] at c1 c2 b3 ⊢
 have hs0:W0.heap.size=w.heap.size + 3:=by rw [hW0];simp
 clear hW0
 have n4:1 ≤ 5 - 1:=by omega
 apply wpIn_rangeFunc_ownH rfl (by omega) (gf:=181) (lb:=#[.pointer (some ⟨w.heap.size + 1 + 1,0,none⟩)]) rfl trivial (enters_of Tryz.func181 (by kernel_rfl) rfl)
  (Kp:=Same v) (pall_stops (5 - 1) n4 (w.heap.size + 1 + 1) b v room xs W0 hPW HL.out b3.cell) (fun {A B C} h k=>Same.trans h k) (Same.put (fun k hk=>by have:=HV.out k hk;omega)) (Below.refl _ _) (fun _=>rfl)
  (fun pre X1=>(Boxed X1 w.heap.size 206 (Value.func (.func 145) #[] #[.pointer (some ⟨o,0,none⟩)])∧Boxed X1 (w.heap.size + 1) 3 (.int .i64 0))∧(∀ p ∈ pre,p.1.b ≠ X)∧Below w.heap.size w X1)
  (fun c ys X1=>∃ pre x,(c = .ret∧ys=pre ++ [x]∧(∀ p ∈ pre,p.1.b ≠ X)∧x.1.b=X)∧Boxed X1 (w.heap.size + 1) 3 (.int .i64 (x.2:Int))∧Below w.heap.size w X1)
  (OwnFrom.and (OwnFrom.and (fun s A B row hs hg hr=>boxed_from (B:=W0.heap.size) _ _ (fun _:Unit=>(Value.func (.func 145) #[] #[.pointer (some ⟨o,0,none⟩)])) () A B row hs hg hr) (fun s A B row hs hg hr=>boxed_from (B:=W0.heap.size) _ _ (fun _:Unit=>Value.int .i64 0) () A B row hs hg hr)) (OwnFrom.and (fun s A B row hs hg hr=>hs) (ownFrom_below (Nat.le_refl _) (by omega))))
  (fun c' s A B row hs hg hr=>by
   obtain ⟨pre,x,h1,h2,h3⟩:=hs
   exact ⟨pre,x,h1,boxed_from (B:=W0.heap.size) _ _ (fun _:Unit=>Value.int .i64 (x.2:Int)) () A B row h2 hg hr,ownFrom_below (B:=W0.heap.size) (Nat.le_refl w.heap.size) (by omega) () A B row h3 hg hr⟩)
  ⟨⟨c1,c2⟩,by simp,hB0⟩
  (fun x a' X1=>∃ Bx,w.heap.size + 1 < Bx∧X1.heap[Bx]?=some (.cells (ba x.1) 156 (0,0))∧a'={ tmps:=#[.pointer (some ⟨b,0,none⟩),(Value.func (.func 145) #[] #[.pointer (some ⟨o,0,none⟩)]),undef,.pointer (some ⟨w.heap.size,0,none⟩),.pointer (some ⟨w.heap.size + 1,0,none⟩),.int .i64 (x.2:Int),.pointer (some ⟨Bx,0,none⟩),(Value.func (.func 145) #[] #[.pointer (some ⟨o,0,none⟩)]),.bool false,.pointer (some ⟨b,0,none⟩),.func (.func 181) #[] #[.pointer (some ⟨w.heap.size + 1 + 1,0,none⟩)],.int .i64 (x.2:Int),.agg (ba x.1),undef,undef,undef,undef],defers:=[] })
 case hAx=>
  rintro x a' s A B row ⟨Bx,h1,h2,h3⟩ hg hr
  exact ⟨Bx,h1,(hg.block Bx (lt_of h2) (fun e=>by
   obtain ⟨hb,o,ho,hc⟩:=hr _ e.symm
   rw [h2] at ho;cases ho;cases hc)).trans h2,h3⟩
 case hassign=>
  rintro l' pre ⟨x,i⟩ X1 K ⟨⟨hb,hr⟩,hne,hB⟩ hK
  have HX:=qh (hK _ (X1.alloc (.cells (ba x) 156)) ((KeepsOthers.alloc _ _).from _) (Same.of_grown (fun k hk=>by have:=HV.out k hk;have:=hb.lt;omega) (grown_alloc (grown_refl _ _) _)) ⟨⟨hb.alloc _,hr.alloc _⟩,hne,hB.alloc (by have:=hb.lt;omega) _⟩ ⟨X1.heap.size,hr.lt,heap_alloc_new _ _,rfl⟩)
  clear hK
  unfold encB
  gi_wp2_with ((with_reducible refine store_newI x _ HZ.out _ _ ?_ ?_ ?_);(rfl);(rfl))
  exact HX.out
 case hbody=>
  rintro l pre ⟨y,i⟩ a' X1 hl' _ ⟨⟨hb,hr⟩,hne,hB⟩ ⟨Bx,hBx,hbx,rfl⟩ hlt
  have hfc:=hb.cell
  have hrc:=hr.cell
  have hrf:=hr.frozen
  have hoc:X1.cell? ⟨o,0,none⟩=some (.int .i64 X):=(hB.cell (p:=⟨o,0,none⟩) hol).trans HO.out
  have HI:=qh (fun n=>is_in n y X o X1 hoc)
  have HX:Hid (X1.rangeAt Bx 0 (bt y)):=qh (range_of hbx)
  have HR:=qh hr
  have HB:=qh hb
  have HBB:=qh hB
  have HNE:=qh hne
  have HVX:Hid (∀ k,v.ownBlock=some k→k < X1.heap.size):=qh fun k hk=>by have:=HV.out k hk;have:=hb.lt;omega
  clear hb hr hB hne hbx hoc hlt
  by_cases hyx:y.b=X
  ·have he:(y.b == X)=true:=by simp [hyx]
   simp only [he] at HI
   have HY:=qh hyx
   clear hyx he
   gi_wp2_with (first
    | ((with_reducible refine load_baI y _ Bx 0 ?_ HX.out ?_);(rfl))
    | (gi_at_call 145;refine (CallsIn.inRound l (HI.out _)).mono ?_;rintro e w' ⟨rfl,hg'⟩;have hrc':=hg'.cell hrc (by simp);have hrf':=(HR.out.kept hg' (by simp)).frozen;have HG':=qh hg';clear hg'))
   have hr':=HR.out.kept HG'.out (by simp)
   exact ⟨(KeepsFrom.of_grownBy HG'.out (by simp)).trans ((KeepsOthers.setCell _ _ _).from _),pre,(y,i),⟨rfl,rfl,HNE.out,HY.out⟩,hr'.set _,(HBB.out.trans ((below_of HG'.out).mono HBB.out.size)).setCell (p:=⟨w.heap.size + 1,0,none⟩) (by simp) _⟩
  ·have he:(y.b == X)=false:=by simp [hyx]
   simp only [he] at HI
   have HY:=qh hyx
   clear hyx he
   gi_wp2_with (first
    | ((with_reducible refine load_baI y _ Bx 0 ?_ HX.out ?_);(rfl))
    | (gi_at_call 145;refine (CallsIn.inRound l (HI.out _)).mono ?_;rintro e w' ⟨rfl,hg'⟩;have HG':=qh hg';clear hg'))
   refine ⟨KeepsFrom.of_grownBy HG'.out (by simp),Same.of_grown HVX.out HG'.out,⟨HB.out.kept HG'.out (by simp),HR.out.kept HG'.out (by simp)⟩,fun p hp=>?_,HBB.out.trans ((below_of HG'.out).mono HBB.out.size)⟩
   rcases List.mem_append.1 hp with hp | hp
   ·exact HNE.out p hp
   ·simp at hp;subst hp;exact HY.out
 case hdone=>
  rintro D ys X1 hD rfl ⟨⟨hb,hr⟩,hne,hB⟩ hK
  have hrc:=hr.cell
  have hrf:=hr.frozen
  have HFF:=qh (ff_all hne)
  gi_wp2
  have hD1:D ≠ w.heap.size + 1:=by omega
  have hK':(X1.setCell ⟨w.heap.size + 1,0,none⟩ (.int .i64 (-1))).heap[D]?=some (.deferred (some [])):=(Below.heap_setCell _ _ _ _ hD1).trans hK
  have hr':=(hr.set (.int .i64 (-1))).kept (grownBy_putObj' _ D (.deferred none)) (by simp;omega)
  refine ⟨by simp,.inl ⟨_,_,rfl,run_takeDeferred hK',?_⟩⟩
  exact ⟨_,results_box rfl agg3 _ _ _ _ rfl hr'.cell,by rw [HFF.out],(hB.setCell (p:=⟨w.heap.size + 1,0,none⟩) (by simp) _).trans (belowK_b (w:=w) (Nat.le_refl _) _ D _ _ (by omega) hK' rfl rfl)⟩
 case hstop=>
  rintro D c pre X1 hD hpre ⟨pre',x,⟨rfl,rfl,hne,hx⟩,hr,hB⟩ hK
  have hrc:=hr.cell
  have HFF:=qh (ff_at hpre hne hx)
  gi_wp2
  have hr':=hr.kept (grownBy_putObj' _ D (.deferred none)) (by simp;omega)
  refine ⟨by simp,.inl ⟨_,_,rfl,run_takeDeferred hK,?_⟩⟩
  exact ⟨_,results_box rfl agg3 _ _ _ _ rfl hr'.cell,by rw [HFF.out],hB.trans (belowK_b (w:=w) (Nat.le_refl _) _ D _ _ (by omega) hK rfl rfl)⟩
end Go.Proofs.YtcoimipgilkmbaaGreatDoor.bk
namespace Go.Proofs.YtcoimipgilkmbaaGreatDoor.bk
set_option linter.unusedVariables false
set_option linter.unusedSimpArgs false
set_option maxRecDepth 1000000
set_option maxHeartbeats 16000000
open Go Go.ChangeShapes Go.WideShapes Go.ChangeAt Go.RowKit
open Go.Proofs.YtcoimipgilkmbaaGreatDoor.tt (Cfg Tab CfgAt cfg_at yes yes_of yes_not may_any data_yes data_no U zd row tyne add_lit lt_of range_grown grown_setCells grown_setRow grown_new grown_drewN below_of grown_alloc grown_refl grown_trans grown_drew Sl Pool Turn Next flat)
def look (ns:List Bk) (b:Int):Option Bk:=ns.find? (fun x=>x.b == b)
def rem (ns:List Bk) (b:Int):List Bk:=ns.eraseP (fun x=>x.b == b)
def dead (x:Bk):Bk:=⟨x.b,x.d,false,x.hd⟩
def fresh (b:Int) (d:List Int) (hd:d.length=16):Bk:=⟨b,d,true,hd⟩
theorem look_b {ns:List Bk} {b:Int} {x:Bk} (h:look ns b=some x):x.b=b:=by
 have:=List.find?_some h
 simpa using this
theorem look_mem {ns:List Bk} {b:Int} {x:Bk} (h:look ns b=some x):x ∈ ns:=List.mem_of_find?_eq_some h
theorem rem_none {ns:List Bk} {b:Int} (h:look ns b=none):rem ns b=ns:=by
 unfold look at h;unfold rem
 rw [List.find?_eq_none] at h
 exact List.eraseP_of_forall_not (fun x hx=>h x hx)
theorem rem_len {ns:List Bk} {b:Int} {x:Bk} (h:look ns b=some x):(rem ns b).length + 1=ns.length:=by
 have hm:=look_mem h
 have hb:=look_b h
 have hl:=List.length_eraseP_of_mem (p:=fun x=>x.b == b) hm (by simp [hb])
 have:0 < ns.length:=List.length_pos_of_mem hm
 unfold rem;omega
theorem rem_le (ns:List Bk) (b:Int):(rem ns b).length ≤ ns.length:=List.length_eraseP_le
theorem ff_look:∀ (ns:List Bk) (b:Int),(look ns b=none∧ff ns b 0=-1) ∨ ∃ k x,look ns b=some x∧ff ns b 0=((k:Nat):Int)∧ns[k]?=some x∧ns.eraseIdx k=rem ns b
 | [],b=> .inl ⟨rfl,rfl⟩
 | y :: r,b=>by
  by_cases hy:y.b=b
  ·refine .inr ⟨0,y,?_,?_,rfl,?_⟩
   ·simp [look,hy]
   ·subst hy;exact ff_hit rfl
   ·simp [rem,hy]
  ·have hyb:(y.b == b)=false:=by simp [hy]
   have hff:ff (y :: r) b 0=(match r.findIdx? (fun x=>x.b == b) with | some j=>((j + 1:Nat):Int) | none=>-1):=by
    unfold ff
    rw [List.drop_zero,List.findIdx?_cons,hyb]
    cases r.findIdx? (fun x=>x.b == b) <;> simp
   rcases ff_look r b with ⟨h1,h2⟩ | ⟨k,x,h1,h2,h3,h4⟩
   ·refine .inl ⟨?_,?_⟩
    ·unfold look at h1 ⊢;rw [List.find?_cons,hyb];exact h1
    ·rw [hff]
     unfold ff at h2;rw [List.drop_zero] at h2
     cases hf:r.findIdx? (fun x=>x.b == b) with
     | none=>rfl
     | some j=>rw [hf] at h2;simp at h2
   ·refine .inr ⟨k + 1,x,?_,?_,by simpa using h3,?_⟩
    ·unfold look at h1 ⊢;rw [List.find?_cons,hyb];exact h1
    ·rw [hff]
     unfold ff at h2;rw [List.drop_zero] at h2
     cases hf:r.findIdx? (fun x=>x.b == b) with
     | none=>rw [hf] at h2;simp at h2
     | some j=>rw [hf] at h2;simp at h2 ⊢;omega
    ·unfold rem at h4 ⊢
     rw [List.eraseP_cons_of_neg (by simp [hy]),List.eraseIdx_cons_succ,h4]
structure BkAt (w:World) (t p:Nat) (v:Value) (n:Int) (m:Nat) (ns:List Bk):Prop where
 blk:w.heap[t]?=some (.cells #[.int .i64 n,.pointer (some ⟨p,0,none⟩)] 158 (0,0))
 pool:BPool w p v m ns
 len:ns.length ≤ m
 room:m ≤ 65536
section
variable {w w':World} {t p:Nat} {v v':Value} {n:Int} {m:Nat} {ns ns':List Bk}
theorem BkAt.lt (h:BkAt w t p v n m ns):t < w.heap.size:=lt_of h.blk
theorem BkAt.c0 (h:BkAt w t p v n m ns):w.cell? ⟨t,0,none⟩=some (.int .i64 n):=by simp [World.cell?,h.blk]
theorem BkAt.c1 (h:BkAt w t p v n m ns):w.cell? ⟨t,1,none⟩=some (.pointer (some ⟨p,0,none⟩)):=by simp [World.cell?,h.blk]
theorem BkAt.short (h:BkAt w t p v n m ns):ns.length ≤ 65536:=Nat.le_trans h.len h.room
theorem BkAt.tp (h:BkAt w t p v n m ns):t ≠ p:=tyne h.blk h.pool.blk (by decide)
theorem BkAt.tv (h:BkAt w t p v n m ns):some t ≠ v.ownBlock:=fun e=>by
 obtain ⟨cur,hc⟩:=h.pool.sl.type _ e.symm
 exact tyne h.blk hc (by decide) rfl
theorem BkAt.of_block (h:BkAt w t p v n m ns) (ht:w'.heap[t]?=w.heap[t]?) (hp:w'.heap[p]?=w.heap[p]?) (hk:∀ g,v.ownBlock=some g→w'.heap[g]?=w.heap[g]?):BkAt w' t p v n m ns:=
 ⟨ht.trans h.blk,h.pool.of_block hp hk,h.len,h.room⟩
theorem BkAt.grown (h:BkAt w t p v n m ns) (hg:w.grownBy w' none):BkAt w' t p v n m ns:=
 h.of_block (hg.block t h.lt (by simp)) (hg.block p h.pool.lt (by simp)) (fun g hk=>hg.block g (h.pool.sl.lt g hk) (by simp))
theorem BkAt.next (h:BkAt w t p v n m ns) (hT:Turn w w' p v v') (hP:BPool w' p v' m ns') (hl:ns'.length ≤ m):BkAt w' t p v' n m ns':=
 ⟨(hT.block t h.lt h.tp h.tv).trans h.blk,hP,hl,h.room⟩
theorem BkAt.other {t2 p2:Nat} {v2:Value} {n2:Int} {m2:Nat} {ns2:List Bk} (h:BkAt w t2 p2 v2 n2 m2 ns2) (h1:BkAt w t p v n m ns) (hT:Turn w w' p v v') (hp:p2 ≠ p) (hv:v2.ownBlock=none ∨ v2.ownBlock ≠ v.ownBlock):BkAt w' t2 p2 v2 n2 m2 ns2:=by
 refine h.of_block (hT.block t2 h.lt (tyne h.blk h1.pool.blk (by decide)) fun e=>?_) (hT.block p2 h.pool.lt hp fun e=>?_) fun g hg=>hT.block g (h.pool.sl.lt g hg) ?_ fun e=>?_
 ·obtain ⟨cur,hc⟩:=h1.pool.sl.type _ e.symm
  exact tyne h.blk hc (by decide) rfl
 ·obtain ⟨cur,hc⟩:=h1.pool.sl.type _ e.symm
  exact tyne h.pool.blk hc (by decide) rfl
 ·obtain ⟨cur,hc⟩:=h.pool.sl.type _ hg
  exact tyne hc h1.pool.blk (by decide)
 ·rcases hv with hv | hv
  ·rw [hv] at hg;cases hg
  ·exact hv (hg.trans e)
end
theorem grown_of_below {w w':World} (h:Below w.heap.size w w'):w.grownBy w' none:=⟨h.os,h.tape,h.output,h.size,fun k hk _=>h.block k hk⟩
theorem new_no (c:Cfg) (w:World) (hT:Tab w) (hm:¬ c.may):Calls Tryz.prog 44 #[.agg c.cells] w fun e w'=>e = .returned (.tuple #[.pointer none,.int .i64 2])∧w.grownBy w' none:=by
 have HG0:Hid (w.grownBy (w.alloc (.cells c.cells 27)) none):=qh (grown_alloc (grown_refl _ _) _)
 have HM:=qh (may_any c (w.alloc (.cells c.cells 27)) (hT.grown HG0.out))
 rw [yes_not hm] at HM
 clear hT hm
 unfold Cfg.cells at *
 go_enter Tryz.func44,Tryz.ntmps44
 go_wp2_with (go_at_call 42;((with_reducible refine HM.out.mono ?_);rintro e w1 ⟨rfl,hg1⟩;have HG1:=qh hg1;clear hg1))
 go_ret2
 exact ⟨rfl,grown_trans HG0.out HG1.out⟩
theorem new_yes (c:Cfg) (m:Nat) (w:World) (hT:Tab w) (hm:c.may) (hba:c.ba=(m:Int)) (h1:1 ≤ m) (h2:m ≤ 65536):Calls Tryz.prog 44 #[.agg c.cells] w fun e w'=>∃ t p,e = .returned (.tuple #[.pointer (some ⟨t,0,none⟩),.int .i64 0])∧BkAt w' t p (.slice none 0 0) c.data m []∧w.heap.size ≤ t∧w.heap.size ≤ p∧w.grownBy w' none:=by
 have hg0:w.grownBy (w.alloc (.cells c.cells 27)) none:=grown_alloc (grown_refl _ _) _
 have HM:=qh (may_any c (w.alloc (.cells c.cells 27)) (hT.grown hg0))
 rw [yes_of hm] at HM
 have HC:=qh (cfg_at w c)
 obtain ⟨d0,d1,d2,d3,d4,d5,d6,d7⟩:=(cfg_at w c)
 have HP:Hid (∀ w,_):=qh fun w=>pnew_ok m w h1 h2
 have HD:Hid (∀ w',w.grownBy w' none→_):=qh fun w' h=>data_yes c w' (hT.grown h) hm
 have HG0:=qh hg0
 rw [← hba] at HP
 clear hT hm h1 hg0
 have HH2:=qh h2
 have HBA:=qh hba
 clear h2 hba
 unfold Cfg.cells at *
 go_enter Tryz.func44,Tryz.ntmps44
 go_wp2_with (first
  | (go_at_call 42;((with_reducible refine HM.out.mono ?_);rintro e w1 ⟨rfl,hg1⟩;have HG1:=qh hg1;obtain ⟨d0,d1,d2,d3,d4,d5,d6,d7⟩:=HC.out.grown hg1;clear hg1))
  | (go_at_call 85;((with_reducible refine (HP.out _).mono ?_);rintro e w2 ⟨rfl,hw2⟩;have HW2:=qh hw2;have hg2:w1.grownBy w2 none:=(by rw [hw2];exact grown_alloc (grown_refl _ _) _);have HG2:=qh hg2;obtain ⟨d0,d1,d2,d3,d4,d5,d6,d7⟩:=(HC.out.grown HG1.out).grown hg2;clear hw2 hg2))
  | (go_at_call 41;((with_reducible refine (HD.out _ (grown_trans HG0.out (grown_trans HG1.out HG2.out))).mono ?_);rintro e w3 ⟨rfl,hg3⟩;have HG3:=qh hg3;clear hg3)))
 go_ret2
 have hp2:w2.heap[w1.heap.size]?=some (.cells #[.slice none 0 0,.int .i64 (m:Int)] 188 (0,0)):=by
  rw [HW2.out,HBA.out];exact heap_alloc_new _ _
 have hs1:w.heap.size ≤ w1.heap.size:=(grown_trans HG0.out HG1.out).size
 have hs2:w1.heap.size < w2.heap.size:=lt_of hp2
 have hs3:=HG3.out.size
 refine ⟨w3.heap.size,w1.heap.size,rfl,⟨heap_alloc_new _ _,⟨(Below.heap_alloc _ _ _ (by omega)).trans ((HG3.out.block _ hs2 (by simp)).trans hp2),Sl.nil _ _ _,by simp [Value.ownBlock]⟩,by simp,HH2.out⟩,by omega,hs1,grown_alloc (grown_trans HG0.out (grown_trans HG1.out (grown_trans HG2.out HG3.out))) _⟩
section
variable (t p:Nat) (v:Value) (n:Int) (m:Nat) (ns:List Bk) (w:World) (H:BkAt w t p v n m ns)
include H
theorem place_any (b:Int):Calls Tryz.prog 101 #[.pointer (some ⟨t,0,none⟩),.int .i64 b] w fun e w'=>e = .returned (.int .i64 (ff ns b 0))∧w.grownBy w' none:=by
 have hg:w.grownBy (w.alloc (.cells #[.int .i64 b] 3)) none:=grown_alloc (grown_refl _ _) _
 have hc:=(H.grown hg).c1
 have HF:=qh (first_any p w.heap.size v m ns b _ (H.grown hg).pool H.short (by rw [cell_of_row _ _ _ _ _ _ (heap_alloc_new w _)];rfl))
 have HG:=qh hg
 clear H hg
 go_enter Tryz.func101,Tryz.ntmps101
 go_wp2_with (go_at_call 144;((with_reducible refine HF.out.mono ?_);rintro e w1 ⟨rfl,hb1⟩;have HB1:=qh hb1;clear hb1))
 go_ret
 exact ⟨rfl,grown_trans HG.out (grown_of_below HB1.out)⟩
theorem room_any:Calls Tryz.prog 92 #[.pointer (some ⟨t,0,none⟩)] w fun e w'=>e = .returned (.int .i64 ((m:Int) - (ns.length:Int)))∧∃ k,w'=w.drewN k:=by
 have hc:=H.c1
 have HP:=qh (proom_any p v m ns w H.pool H.len H.room)
 clear H
 go_enter Tryz.func92,Tryz.ntmps92
 go_wp2_with (go_at_call 128;((with_reducible refine HP.out.mono ?_);rintro e w1 ⟨rfl,k,rfl⟩))
 go_ret
 exact ⟨rfl,k,rfl⟩
theorem copy_any:Calls Tryz.prog 61 #[.pointer (some ⟨t,0,none⟩)] w fun e w'=>∃ t' p' v',e = .returned (.pointer (some ⟨t',0,none⟩))∧BkAt w' t' p' v' n m ns∧w.heap.size ≤ t'∧w.heap.size ≤ p'∧(∀ k,v'.ownBlock=some k→w.heap.size ≤ k)∧w.grownBy w' none:=by
 have hc0:=H.c0
 have hc:=H.c1
 have HC:=qh (pcopy_any p v m ns w.drew (H.grown (grown_drew (grown_refl _ _))).pool H.short)
 have HL:=qh H.len
 have HR:=qh H.room
 have hlt:=H.lt
 clear H
 go_enter Tryz.func61,Tryz.ntmps61
 go_wp2_with fail
 go_region_with (go_at_call 104;((with_reducible refine HC.out.mono ?_);rintro e w2 ⟨p',v',rfl,hp2,hP2,hgr2,hfr2⟩;have hc2:=hgr2.cell (show w.drew.cell? ⟨t,0,none⟩=_ from hc0) (by simp)))
 all_goals
  go_wp2_with fail
  go_ret
  have hs2:=hgr2.size
  have hp2':w.heap.size ≤ p':=by simpa using hp2
  have hl2:=hP2.lt
  refine ⟨_,_,_,rfl,⟨heap_alloc_new _ _,hP2.grown (grown_alloc (grown_refl _ _) _),HL.out,HR.out⟩,by simpa using hs2,hp2',hfr2,⟨hgr2.os,hgr2.tape,hgr2.output,by simp at hs2 ⊢;omega,fun k hk h=>?_⟩⟩
  exact (Below.heap_alloc _ _ _ (by simp at hs2;omega)).trans (hgr2.block k hk h)
end
end Go.Proofs.YtcoimipgilkmbaaGreatDoor.bk
namespace Go.Proofs.YtcoimipgilkmbaaGreatDoor.bk
set_option linter.unusedVariables false
set_option linter.unusedSimpArgs false
set_option maxRecDepth 1000000
set_option maxHeartbeats 16000000
open Go Go.ChangeShapes Go.WideShapes Go.ChangeAt Go.RowKit
open Go.Proofs.YtcoimipgilkmbaaGreatDoor.tt (Cfg Tab CfgAt cfg_at U zd row tyne add_lit lt_of range_grown heap_setCells_other setCells_rest grown_setCells grown_setRow grown_new grown_drewN below_of grown_alloc grown_refl grown_trans grown_drew Sl Pool Turn Next flat)
theorem aside {w W3 w4 W5:World} {p m:Nat} {v v':Value} {ns':List Bk} (hg:w.grownBy W3 none) (hp:p < w.heap.size) (hT:Turn W3 w4 p v v') (hP:BPool w4 p v' m ns')
  (ho:W5.os=w4.os) (ht:W5.tape=w4.tape) (hu:W5.output=w4.output) (hs:w4.heap.size ≤ W5.heap.size) (hk:∀ k,k < w4.heap.size→(k < w.heap.size ∨ v'.ownBlock=some k)→W5.heap[k]?=w4.heap[k]?):BPool W5 p v' m ns'∧Turn w W5 p v v':=by
 have h1:=hg.size
 have h2:=hT.size
 have hT2:=Turn.trans (Turn.of_grown p v hg) hT
 exact ⟨hP.of_block (hk p (by omega) (.inl hp)) (fun g e=>hk g (hP.sl.lt g e) (.inr e)),ho.trans hT2.os,ht.trans hT2.tape,hu.trans hT2.output,by omega,fun k h3 h4 h5=>(hk k (by omega) (.inl h3)).trans (hT2.block k h3 h4 h5),hT2.next⟩
theorem store_at (x:Bk) (W:World) (g:Nat) (cz:Array Value) (hb:W.heap[g]?=some (.cells cz 156 (0,0))) (hz:cz.size=18):(storeCells ⟨g,0,none⟩ (ba x).toList 0).run Tryz.prog W = .ok () (W.setCells g 0 (bt x)):=by
 have ht:=there_of hb hz
 have:=run_storeCells_cells (P:=Tryz.prog) g 0 (bt x) 0 W (fun j hj=>by simpa using (ht j (by simpa [bt_len] using hj)).1) (fun j hj=>by simpa using (ht j (by simpa [bt_len] using hj)).2) (bt_one x)
 simpa [ba] using this
theorem range_at (x:Bk) (W:World) (g:Nat) (cz:Array Value) (hb:W.heap[g]?=some (.cells cz 156 (0,0))) (hz:cz.size=18):(W.setCells g 0 (bt x)).rangeAt g 0 (bt x):=by
 have ht:=there_of hb hz
 exact World.rangeAt_setCells_same _ _ _ _ (fun i hi=>ht i (by simpa [bt_len] using hi))
structure Met (w w4:World) (p g R:Nat) (t:TypeId) (zr:Array Value) (v v':Value) (m:Nat) (ns':List Bk):Prop where
 pool:BPool w4 p v' m ns'
 turn:Turn w w4 p v v'
 var:w4.heap[g]?=some (.cells (ba zb) 156 (0,0))
 res:w4.heap[R]?=some (.cells zr t (0,0))
 ge:w.heap.size ≤ g
 ne:R ≠ g
 rw:w.heap.size ≤ R
 vg:v'.ownBlock ≠ some g
 vr:v'.ownBlock ≠ some R
theorem named29:∃ (t:TypeId) (m:Nat),Hid (Op.load 35=Op.load t∧Op.store 35=Op.store t)∧(∀ w,(isAgg t).run Tryz.prog w = .ok true w)∧(∀ w,(sizeOf t).run Tryz.prog w = .ok m w) ∧
  (∀ (g o:Nat) (d:List Int),d.length=16→∀ w:World,w.rangeAt g o (d.map U)→(loadCellsFrom ⟨g,o,none⟩ 0 m #[]).run Tryz.prog w = .ok (row d) w)∧(∀ d:List Int,d.length=16→(row d).size=m) ∧
  (∀ (g o:Nat) (d:List Int),d.length=16→∀ w:World,w.there g o 16→(storeCells ⟨g,o,none⟩ (row d).toList 0).run Tryz.prog w = .ok () (w.setCells g o (d.map U))):=
 ⟨35,16,qh ⟨rfl,rfl⟩,Tryz.isAgg35,Tryz.sizeOf35,fun g o d hd w h=>by
  have:=run_loadCells_list (P:=Tryz.prog) w ⟨g,o,none⟩ (d.map U) (fun j v hv=>by rw [add_lit];exact h j v hv)
  simpa [loadCells,hd,row] using this,fun d hd=>by simp [row,hd],fun g o d hd w h=>by
  have:=run_storeCells_cells (P:=Tryz.prog) g o (d.map U) 0 w (fun j hj=>by simpa using (h j (by simpa [hd] using hj)).1) (fun j hj=>by simpa using (h j (by simpa [hd] using hj)).2) (fun v hv=>by
   obtain ⟨x,_,rfl⟩:=List.mem_map.1 hv;rfl)
  simpa [row] using this⟩
theorem range_d {w:World} {g:Nat} {n:Bk} (h:w.rangeAt g 0 (bt n)):w.rangeAt g 1 (n.d.map U):=fun j v hv=>by
 have hj:j < 16:=by have:=(List.getElem?_eq_some_iff.1 hv).1;simpa [n.hd] using this
 have:=h (1 + j) v (by rw [bt_d n j hj];simpa using hv)
 rwa [Nat.zero_add] at this
theorem infoR (d:List Int) (hd:d.length=16):(Tryz.prog.info? 35).map (·.size)=some (d.map U).length:=by
 have h:(Tryz.prog.info? 35).map (·.size)=some 16:=by kernel_rfl
 rw [h,List.length_map,hd]
theorem ret_row3 {fn:Func} {p q r:Tmp} (hres:fn.results=#[.cell p 35,.tmp q,.tmp r]) (w:World) (d:List Int) (hd:d.length=16) (u v:Value) (B:Nat) (tmps:Array Value) (Q:Ending→World→Prop) (h4:tmps.getD p undef = .pointer (some ⟨B,0,none⟩)) (h5:tmps.getD q undef=u) (h6:tmps.getD r undef=v)
  (hr:w.rangeAt B 0 (d.map U)) (hQ:Q (.returned (.tuple #[.agg (row d),u,v])) w):bodyPost Tryz.prog fn Q .ret { tmps:=tmps,defers:=[] } w:=by
 refine bodyPost_ret (v:= .tuple #[.agg (row d),u,v]) ?_ rfl hQ
 have:=run_loadVar_mid (P:=Tryz.prog) w B 0 35 (d.map U) _ hr Tryz.underlying35 rfl (infoR d hd)
 have h4':tmps[p]?.getD undef = .pointer (some ⟨B,0,none⟩):=by simpa using h4
 have h5':tmps[q]?.getD undef=u:=by simpa using h5
 have h6':tmps[r]?.getD undef=v:=by simpa using h6
 simp [results,hres,h4',h5',h6',asAddr,this,row]
theorem onerow (w:World):∃ w2,w.alloc (.cells (row zd) 35)=w2∧w.grownBy w2 none∧w2.heap[w.heap.size]?=some (.cells (row zd) 35 (0,0))∧w2.heap.size=w.heap.size + 1:=
 ⟨_,rfl,grown_alloc (grown_refl _ _) _,heap_alloc_new _ _,by simp⟩
theorem zrow:row zd=#[.int .u32 0,.int .u32 0,.int .u32 0,.int .u32 0,.int .u32 0,.int .u32 0,.int .u32 0,.int .u32 0,.int .u32 0,.int .u32 0,.int .u32 0,.int .u32 0,.int .u32 0,.int .u32 0,.int .u32 0,.int .u32 0]:=rfl
theorem there16 {w:World} {g:Nat} {c:Array Value} {t:TypeId} (h:w.heap[g]?=some (.cells c t (0,0))) (hc:c.size=16):w.there g 0 16:=fun i hi=>by
 refine ⟨?_,frozen_of_row _ _ _ _ _ h⟩
 rw [cell_of_row _ _ _ _ _ _ h,Nat.zero_add,Array.getElem?_eq_getElem (by omega)];rfl
section
variable (t p:Nat) (v:Value) (n:Int) (m:Nat) (ns:List Bk) (w:World) (H:BkAt w t p v n m ns)
include H
theorem take_gen (b k:Int) (x:Bk) (e:Int) (ns':List Bk) (hff:ff ns b 0=k) (hTK:∀ w',w.grownBy w' none→Calls Tryz.prog 180 #[.pointer (some ⟨p,0,none⟩),.int .i64 k] w' fun e' w''=>e' = .returned (.tuple #[.agg (ba x),.int .i64 e])∧∃ v',BPool w'' p v' m ns'∧Turn w' w'' p v v') :
  Calls Tryz.prog 168 #[.pointer (some ⟨t,0,none⟩),.int .i64 b] w fun e' w'=>e' = .returned (.tuple #[.agg (ba x),.bool (e == 0)])∧∃ v',BPool w' p v' m ns'∧Turn w w' p v v':=by
 obtain ⟨w2,hw,hg2,hb2,hs2⟩:=onez w
 have hz:ba zb=_:=zb_ba
 rw [hz] at hw
 have HPL:Hid (∀ w',w.grownBy w' none→_):=qh fun w' h=>place_any t p v n m ns w' (H.grown h) b
 rw [hff] at HPL
 have HTK:=qh hTK
 have hc:w2.cell? ⟨t,1,none⟩=_:=(H.grown hg2).c1
 have HG2:=qh hg2
 have HB2:=qh hb2
 have HS2:=qh hs2
 have HP:=qh H.pool.lt
 have HV:=qh H.pool.sl.lt
 have HH:=qh H
 have hsz:=ba_size x
 clear H hff hg2 hb2 hs2 hz hTK
 go_enter Tryz.func168,Tryz.ntmps168
 go_wp2_with fail
 refine wp_region_held_drew (S:=fun W=>W.cell? ⟨t,1,none⟩=some (.pointer (some ⟨p,0,none⟩))) (by kernel_rfl) hc (fun hHeld=>?_)
 have HG0:=qh (grown_drew (grown_refl w2 none))
 generalize w2.drew=W0 at hHeld HG0 ⊢
 refine tl 0 ?_ rfl ?_ ?_ (tl 1 ?_ rfl ?_ ?_ (tl 2 ?_ rfl ?_ ?_ (tl 3 ?_ rfl ?_ ?_ (tl 4 ?_ rfl ?_ ?_ (tl 5 ?_ rfl ?_ ?_ ?_)))))
 iterate 6 (rotate_left;(next=>(try simp only [lay]);((intro w0 hSw;go_simp);try (with_reducible rfl)));next=>rfl)
 try simp only [lay]
 refine wpAnyH_ready (rs:=[6,11]) (by kernel_rfl) (by simp) (ac rfl (fun K hK=>?_) (ac rfl (fun K hK=>?_) AllReadyH.nil))
 ·go_simp
  (with_reducible refine (HPL.out _ (grown_trans HG2.out HG0.out)).mono ?_);rintro e X1 ⟨rfl,hgn⟩
  have HG1:=qh (grown_trans HG0.out hgn)
  go_wp2_with fail
  refine hK.out _ _ ((HH.out.grown (grown_trans HG2.out HG1.out)).c1) (fun hHeld=>?_)
  clear hK K hgn
  try simp only [lay]
  refine wpAnyH_ready (rs:=[7,11]) (by kernel_rfl) (by simp) (ac rfl (fun K hK=>?_) (ac rfl (fun K hK=>?_) AllReadyH.nil))
  ·go_simp
   (with_reducible refine (HTK.out _ (grown_trans HG2.out HG1.out)).mono ?_);rintro e X2 ⟨rfl,v',hP4,hT4⟩
   have HPT:=qh hP4
   have HTT:=qh ((Turn.of_grown p v (grown_trans HG2.out HG1.out)).trans hT4)
   have hRlt:w.heap.size < X1.heap.size:=by have:=lt_of HB2.out;have:=HG1.out.size;omega
   have hRv:some w.heap.size ≠ v.ownBlock:=fun e=>by have:=HV.out _ e.symm;omega
   have HRT:=qh ((hT4.block w.heap.size hRlt (by have:=HP.out;omega) hRv).trans ((HG1.out.block w.heap.size (lt_of HB2.out) (by simp)).trans HB2.out))
   have HVR:Hid (v'.ownBlock ≠ some w.heap.size):=qh (fun e=>hT4.next.ne hRlt hRv e.symm)
   have hcT:=(World.cell?_of_block (a:=⟨t,1,none⟩) (HTT.out.block t HH.out.lt HH.out.tp HH.out.tv)).trans HH.out.c1
   go_wp2_with fail
   refine hK.out _ _ hcT (fun hHeld=>?_)
   clear hK K hcT hP4 hT4 hRlt hRv
   try simp only [lay]
   refine tl 8 ?_ rfl ?_ ?_ (tl 9 ?_ rfl ?_ ?_ (tl 10 ?_ rfl ?_ ?_ ?_))
   iterate 3 (rotate_left;(next=>(try simp only [lay]);((intro w0 hSw;go_simp);try (with_reducible rfl)));next=>rfl)
   try simp only [lay]
   refine wpAnyH_ready (rs:=[11]) (by kernel_rfl) (by simp) (ac rfl (fun K hK=>?_) AllReadyH.nil)
   ·go_simp
    refine hK.out _ _ ((World.cell?_alloc_some _ _ _ (by rw [hHeld];rfl)).trans hHeld) (fun hHeld=>?_)
    clear hK K
    try simp only [lay]
    have HBG:=qh (heap_alloc_new X2 (.cells (ba zb) 156))
    have HSG:=qh (show X2.heap.size=X2.heap.size from rfl)
    obtain ⟨g,hgg⟩:∃ g,X2.heap.size=g:=⟨_,rfl⟩
    rw [hgg] at HBG ⊢
    have HGG:=qh hgg
    clear hgg
    have HPX:=qh (HPT.out.grown (grown_alloc (grown_refl X2 none) (.cells (ba zb) 156)))
    have HTX:=qh (HTT.out.trans (Turn.of_grown p v' (grown_alloc (grown_refl X2 none) (.cells (ba zb) 156))))
    have HRX:=qh ((Below.heap_alloc X2 (.cells (ba zb) 156) _ (lt_of HRT.out)).trans HRT.out)
    have HWX:Hid (X2.alloc (.cells (ba zb) 156)=_):=qh rfl
    obtain ⟨X3,hX⟩:∃ X,X2.alloc (.cells (ba zb) 156)=X:=⟨_,rfl⟩
    have hX':X2.alloc (.cells #[.int .i64 0,.int .u32 0,.int .u32 0,.int .u32 0,.int .u32 0,.int .u32 0,.int .u32 0,.int .u32 0,.int .u32 0,.int .u32 0,.int .u32 0,.int .u32 0,.int .u32 0,.int .u32 0,.int .u32 0,.int .u32 0,.int .u32 0,.bool false] 156)=X3:=hX
    rw [hX'] at hHeld ⊢
    rw [hX] at HBG HPX HTX HRX
    clear hX hX' HWX HSG
    have HTG:Hid (t ≠ g):=qh (by have:=HH.out.lt;have:=HG2.out.size;have:=HTT.out.size;have:=HGG.out;omega)
    have HM:Hid (Met w X3 p g w.heap.size 156 (ba zb) v v' m ns'):=qh ⟨HPX.out,HTX.out,HBG.out,HRX.out,by have:=HTT.out.size;have:=HGG.out;omega,by have:=lt_of HRT.out;have:=HGG.out;omega,Nat.le_refl _,fun e=>by have:=HPT.out.sl.lt _ e;have:=HGG.out;omega,HVR.out⟩
    have hst4:=store_at x X3 g _ HM.out.var rfl
    refine rd 12 rfl fun K hK=>?_
    go_simp
    refine hK.out _ _ (show (X3.setCells g 0 (bt x)).cell? ⟨t,1,none⟩=_ from (World.cell?_of_block (heap_setCells_other g t HTG.out _ _ _)).trans hHeld) (fun hHeld=>?_)
    clear hK K
    try simp only [lay]
    refine tl 13 ?_ rfl ?_ ?_ ?_
    (rotate_left;(next=>((intro w0 hSw;go_simp);try (with_reducible rfl)));next=>rfl)
    try simp only [lay]
    refine wpAnyH_done (by kernel_rfl) ?_ _
    have HR5:Hid ((X3.setCells g 0 (bt x)).rangeAt g 0 (bt x)):=qh (range_at x X3 g _ HM.out.var rfl)
    have HE5:Hid ((X3.setCells g 0 (bt x)).heap[w.heap.size]?=_):=qh ((heap_setCells_other g w.heap.size HM.out.ne _ _ _).trans HM.out.res)
    have HZ5:=qh (setCells_rest g (bt x) 0 X3)
    have HO5:Hid (∀ k,k ≠ g→(X3.setCells g 0 (bt x)).heap[k]?=X3.heap[k]?):=qh (fun k hk=>heap_setCells_other g k hk _ _ _)
    clear hst4
    generalize X3.setCells g 0 (bt x)=Y at *
    go_wp2_with (first
     | ((with_reducible refine load_bt x _ g ?_ HR5.out ?_);(rfl))
     | ((with_reducible refine store_any x _ _ _ w.heap.size ?_ ?_ HE5.out ?_ ?_);(rfl);(rfl);(rfl)))
    have hfin:=aside (W3:=w) (grown_refl _ _) HP.out HM.out.turn HM.out.pool (W5:=Y.setRow w.heap.size (ba x)) HZ5.out.1 HZ5.out.2.1 HZ5.out.2.2.1 (by have:=HZ5.out.2.2.2;simp;omega) (fun k hk hk2=>(setRow_other _ _ _ _ (by rcases hk2 with h | h;omega;exact fun e=>HM.out.vr (e ▸ h))).trans (HO5.out k (by rcases hk2 with h | h;(have:=HM.out.ge;omega);exact fun e=>HM.out.vg (e ▸ h))))
    exact ret_bte rfl _ x _ w.heap.size _ _ (by rfl) (by rfl) (range_of (setRow_heap _ _ _ _ _ _ HE5.out)) ⟨rfl,v',hfin.1,hfin.2⟩
  ·go_simp
   refine hK.out _ _ ((World.cell?_alloc_some _ _ _ (by rw [hHeld];rfl)).trans hHeld) (fun hHeld=>?_)
   clear hK K
   try simp only [lay]
   have HBG:=qh (heap_alloc_new X1 (.cells (ba zb) 156))
   have HSG:=qh (show X1.heap.size=X1.heap.size from rfl)
   obtain ⟨g,hgg⟩:∃ g,X1.heap.size=g:=⟨_,rfl⟩
   rw [hgg] at HBG ⊢
   have HGG:=qh hgg
   have HGL:Hid (w2.heap.size ≤ g):=qh (by have:=HG1.out.size;omega)
   clear hgg
   have HG4:=qh (grown_alloc HG1.out (.cells (ba zb) 156))
   have HWX:Hid (X1.alloc (.cells (ba zb) 156)=_):=qh rfl
   obtain ⟨X4,hX⟩:∃ X,X1.alloc (.cells (ba zb) 156)=X:=⟨_,rfl⟩
   have hX':X1.alloc (.cells #[.int .i64 0,.int .u32 0,.int .u32 0,.int .u32 0,.int .u32 0,.int .u32 0,.int .u32 0,.int .u32 0,.int .u32 0,.int .u32 0,.int .u32 0,.int .u32 0,.int .u32 0,.int .u32 0,.int .u32 0,.int .u32 0,.int .u32 0,.bool false] 156)=X4:=hX
   rw [hX'] at hHeld ⊢
   rw [hX] at HBG HG4
   clear hX hX' HWX HSG
   refine wpAnyH_ready (rs:=[7]) (by kernel_rfl) (by simp) (ac rfl (fun K hK=>?_) AllReadyH.nil)
   ·go_simp
    (with_reducible refine (HTK.out _ (grown_trans HG2.out HG4.out)).mono ?_);rintro e X5 ⟨rfl,v',hP4,hT4⟩
    have HPT:=qh hP4
    have HTT:=qh ((Turn.of_grown p v (grown_trans HG2.out HG4.out)).trans hT4)
    have hRlt:w.heap.size < X4.heap.size:=by have:=lt_of HB2.out;have:=HG4.out.size;omega
    have hRv:some w.heap.size ≠ v.ownBlock:=fun e=>by have:=HV.out _ e.symm;omega
    have HRT:=qh ((hT4.block w.heap.size hRlt (by have:=HP.out;omega) hRv).trans ((HG4.out.block w.heap.size (lt_of HB2.out) (by simp)).trans HB2.out))
    have HVR:Hid (v'.ownBlock ≠ some w.heap.size):=qh (fun e=>hT4.next.ne hRlt hRv e.symm)
    have hglt:=lt_of HBG.out
    have hgw:w.heap.size < g:=by have:=lt_of HB2.out;have:=HGL.out;omega
    have hgv:some g ≠ v.ownBlock:=fun e=>by have:=HV.out _ e.symm;omega
    have HTG:Hid (t ≠ g):=qh (by have:=HH.out.lt;omega)
    have HM:Hid (Met w X5 p g w.heap.size 156 (ba zb) v v' m ns'):=qh ⟨HPT.out,HTT.out,(hT4.block g hglt (by have:=HP.out;omega) hgv).trans HBG.out,HRT.out,by omega,by omega,Nat.le_refl _,fun e=>hT4.next.ne hglt hgv e.symm,HVR.out⟩
    have hcT:=(World.cell?_of_block (a:=⟨t,1,none⟩) (HTT.out.block t HH.out.lt HH.out.tp HH.out.tv)).trans HH.out.c1
    go_wp2_with fail
    refine hK.out _ _ hcT (fun hHeld=>?_)
    clear hK K hcT hP4 hT4 hRlt hRv hglt hgw hgv
    try simp only [lay]
    refine tl 8 ?_ rfl ?_ ?_ (tl 9 ?_ rfl ?_ ?_ (tl 10 ?_ rfl ?_ ?_ ?_))
    iterate 3 (rotate_left;(next=>(try simp only [lay]);((intro w0 hSw;go_simp);try (with_reducible rfl)));next=>rfl)
    try simp only [lay]
    have hst4:=store_at x X5 g _ HM.out.var rfl
    refine rd 12 rfl fun K hK=>?_
    go_simp
    refine hK.out _ _ (show (X5.setCells g 0 (bt x)).cell? ⟨t,1,none⟩=_ from (World.cell?_of_block (heap_setCells_other g t HTG.out _ _ _)).trans hHeld) (fun hHeld=>?_)
    clear hK K
    try simp only [lay]
    refine tl 13 ?_ rfl ?_ ?_ ?_
    (rotate_left;(next=>((intro w0 hSw;go_simp);try (with_reducible rfl)));next=>rfl)
    try simp only [lay]
    refine wpAnyH_done (by kernel_rfl) ?_ _
    have HR5:Hid ((X5.setCells g 0 (bt x)).rangeAt g 0 (bt x)):=qh (range_at x X5 g _ HM.out.var rfl)
    have HE5:Hid ((X5.setCells g 0 (bt x)).heap[w.heap.size]?=_):=qh ((heap_setCells_other g w.heap.size HM.out.ne _ _ _).trans HM.out.res)
    have HZ5:=qh (setCells_rest g (bt x) 0 X5)
    have HO5:Hid (∀ k,k ≠ g→(X5.setCells g 0 (bt x)).heap[k]?=X5.heap[k]?):=qh (fun k hk=>heap_setCells_other g k hk _ _ _)
    clear hst4
    generalize X5.setCells g 0 (bt x)=Y at *
    go_wp2_with (first
     | ((with_reducible refine load_bt x _ g ?_ HR5.out ?_);(rfl))
     | ((with_reducible refine store_any x _ _ _ w.heap.size ?_ ?_ HE5.out ?_ ?_);(rfl);(rfl);(rfl)))
    have hfin:=aside (W3:=w) (grown_refl _ _) HP.out HM.out.turn HM.out.pool (W5:=Y.setRow w.heap.size (ba x)) HZ5.out.1 HZ5.out.2.1 HZ5.out.2.2.1 (by have:=HZ5.out.2.2.2;simp;omega) (fun k hk hk2=>(setRow_other _ _ _ _ (by rcases hk2 with h | h;omega;exact fun e=>HM.out.vr (e ▸ h))).trans (HO5.out k (by rcases hk2 with h | h;(have:=HM.out.ge;omega);exact fun e=>HM.out.vg (e ▸ h))))
    exact ret_bte rfl _ x _ w.heap.size _ _ (by rfl) (by rfl) (range_of (setRow_heap _ _ _ _ _ _ HE5.out)) ⟨rfl,v',hfin.1,hfin.2⟩
 ·go_simp
  refine hK.out _ _ ((World.cell?_alloc_some _ _ _ (by rw [hHeld];rfl)).trans hHeld) (fun hHeld=>?_)
  clear hK K
  try simp only [lay]
  have HBG:=qh (heap_alloc_new W0 (.cells (ba zb) 156))
  have HSG:=qh (show W0.heap.size=W0.heap.size from rfl)
  obtain ⟨g,hgg⟩:∃ g,W0.heap.size=g:=⟨_,rfl⟩
  rw [hgg] at HBG ⊢
  have HGG:=qh hgg
  have HGL:Hid (w2.heap.size ≤ g):=qh (by have:=HG0.out.size;omega)
  clear hgg
  have HG6:=qh (grown_alloc HG0.out (.cells (ba zb) 156))
  have HWX:Hid (W0.alloc (.cells (ba zb) 156)=_):=qh rfl
  obtain ⟨X6,hX⟩:∃ X,W0.alloc (.cells (ba zb) 156)=X:=⟨_,rfl⟩
  have hX':W0.alloc (.cells #[.int .i64 0,.int .u32 0,.int .u32 0,.int .u32 0,.int .u32 0,.int .u32 0,.int .u32 0,.int .u32 0,.int .u32 0,.int .u32 0,.int .u32 0,.int .u32 0,.int .u32 0,.int .u32 0,.int .u32 0,.int .u32 0,.int .u32 0,.bool false] 156)=X6:=hX
  rw [hX'] at hHeld ⊢
  rw [hX] at HBG HG6
  clear hX hX' HWX HSG
  refine wpAnyH_ready (rs:=[6]) (by kernel_rfl) (by simp) (ac rfl (fun K hK=>?_) AllReadyH.nil)
  ·go_simp
   (with_reducible refine (HPL.out _ (grown_trans HG2.out HG6.out)).mono ?_);rintro e X7 ⟨rfl,hgn⟩
   have HG7:=qh (grown_trans HG6.out hgn)
   replace HBG:=qh ((hgn.block g (lt_of HBG.out) (by simp)).trans HBG.out)
   go_wp2_with fail
   refine hK.out _ _ ((HH.out.grown (grown_trans HG2.out HG7.out)).c1) (fun hHeld=>?_)
   clear hK K hgn
   try simp only [lay]
   refine wpAnyH_ready (rs:=[7]) (by kernel_rfl) (by simp) (ac rfl (fun K hK=>?_) AllReadyH.nil)
   ·go_simp
    (with_reducible refine (HTK.out _ (grown_trans HG2.out HG7.out)).mono ?_);rintro e X8 ⟨rfl,v',hP4,hT4⟩
    have HPT:=qh hP4
    have HTT:=qh ((Turn.of_grown p v (grown_trans HG2.out HG7.out)).trans hT4)
    have hRlt:w.heap.size < X7.heap.size:=by have:=lt_of HB2.out;have:=HG7.out.size;omega
    have hRv:some w.heap.size ≠ v.ownBlock:=fun e=>by have:=HV.out _ e.symm;omega
    have HRT:=qh ((hT4.block w.heap.size hRlt (by have:=HP.out;omega) hRv).trans ((HG7.out.block w.heap.size (lt_of HB2.out) (by simp)).trans HB2.out))
    have HVR:Hid (v'.ownBlock ≠ some w.heap.size):=qh (fun e=>hT4.next.ne hRlt hRv e.symm)
    have hglt:=lt_of HBG.out
    have hgw:w.heap.size < g:=by have:=lt_of HB2.out;have:=HGL.out;omega
    have hgv:some g ≠ v.ownBlock:=fun e=>by have:=HV.out _ e.symm;omega
    have HTG:Hid (t ≠ g):=qh (by have:=HH.out.lt;omega)
    have HM:Hid (Met w X8 p g w.heap.size 156 (ba zb) v v' m ns'):=qh ⟨HPT.out,HTT.out,(hT4.block g hglt (by have:=HP.out;omega) hgv).trans HBG.out,HRT.out,by omega,by omega,Nat.le_refl _,fun e=>hT4.next.ne hglt hgv e.symm,HVR.out⟩
    have hcT:=(World.cell?_of_block (a:=⟨t,1,none⟩) (HTT.out.block t HH.out.lt HH.out.tp HH.out.tv)).trans HH.out.c1
    go_wp2_with fail
    refine hK.out _ _ hcT (fun hHeld=>?_)
    clear hK K hcT hP4 hT4 hRlt hRv hglt hgw hgv
    try simp only [lay]
    refine tl 8 ?_ rfl ?_ ?_ (tl 9 ?_ rfl ?_ ?_ (tl 10 ?_ rfl ?_ ?_ ?_))
    iterate 3 (rotate_left;(next=>(try simp only [lay]);((intro w0 hSw;go_simp);try (with_reducible rfl)));next=>rfl)
    try simp only [lay]
    have hst4:=store_at x X8 g _ HM.out.var rfl
    refine rd 12 rfl fun K hK=>?_
    go_simp
    refine hK.out _ _ (show (X8.setCells g 0 (bt x)).cell? ⟨t,1,none⟩=_ from (World.cell?_of_block (heap_setCells_other g t HTG.out _ _ _)).trans hHeld) (fun hHeld=>?_)
    clear hK K
    try simp only [lay]
    refine tl 13 ?_ rfl ?_ ?_ ?_
    (rotate_left;(next=>((intro w0 hSw;go_simp);try (with_reducible rfl)));next=>rfl)
    try simp only [lay]
    refine wpAnyH_done (by kernel_rfl) ?_ _
    have HR5:Hid ((X8.setCells g 0 (bt x)).rangeAt g 0 (bt x)):=qh (range_at x X8 g _ HM.out.var rfl)
    have HE5:Hid ((X8.setCells g 0 (bt x)).heap[w.heap.size]?=_):=qh ((heap_setCells_other g w.heap.size HM.out.ne _ _ _).trans HM.out.res)
    have HZ5:=qh (setCells_rest g (bt x) 0 X8)
    have HO5:Hid (∀ k,k ≠ g→(X8.setCells g 0 (bt x)).heap[k]?=X8.heap[k]?):=qh (fun k hk=>heap_setCells_other g k hk _ _ _)
    clear hst4
    generalize X8.setCells g 0 (bt x)=Y at *
    go_wp2_with (first
     | ((with_reducible refine load_bt x _ g ?_ HR5.out ?_);(rfl))
     | ((with_reducible refine store_any x _ _ _ w.heap.size ?_ ?_ HE5.out ?_ ?_);(rfl);(rfl);(rfl)))
    have hfin:=aside (W3:=w) (grown_refl _ _) HP.out HM.out.turn HM.out.pool (W5:=Y.setRow w.heap.size (ba x)) HZ5.out.1 HZ5.out.2.1 HZ5.out.2.2.1 (by have:=HZ5.out.2.2.2;simp;omega) (fun k hk hk2=>(setRow_other _ _ _ _ (by rcases hk2 with h | h;omega;exact fun e=>HM.out.vr (e ▸ h))).trans (HO5.out k (by rcases hk2 with h | h;(have:=HM.out.ge;omega);exact fun e=>HM.out.vg (e ▸ h))))
    exact ret_bte rfl _ x _ w.heap.size _ _ (by rfl) (by rfl) (range_of (setRow_heap _ _ _ _ _ _ HE5.out)) ⟨rfl,v',hfin.1,hfin.2⟩
theorem find_gen (b k:Int) (x:Bk) (e:Int) (ns':List Bk) (hff:ff ns b 0=k) (hTK:∀ w',w.grownBy w' none→Calls Tryz.prog 100 #[.pointer (some ⟨p,0,none⟩),.int .i64 k] w' fun e' w''=>e' = .returned (.tuple #[.agg (ba x),.int .i64 e])∧∃ v',BPool w'' p v' m ns'∧Turn w' w'' p v v') :
  Calls Tryz.prog 59 #[.pointer (some ⟨t,0,none⟩),.int .i64 b] w fun e' w'=>e' = .returned (.tuple #[.agg (row x.d),.bool x.l,.bool (e == 0)])∧∃ v',BPool w' p v' m ns'∧Turn w w' p v v':=by
 obtain ⟨w2,hw,hg2,hb2,hs2⟩:=onerow w
 have hz:row zd=_:=zrow
 rw [hz] at hw
 have HPL:Hid (∀ w',w.grownBy w' none→_):=qh fun w' h=>place_any t p v n m ns w' (H.grown h) b
 rw [hff] at HPL
 have HTK:=qh hTK
 have hc:w2.cell? ⟨t,1,none⟩=_:=(H.grown hg2).c1
 have HG2:=qh hg2
 have HB2:=qh hb2
 have HS2:=qh hs2
 have HP:=qh H.pool.lt
 have HV:=qh H.pool.sl.lt
 have HH:=qh H
 have hsz:=ba_size x
 clear H hff hg2 hb2 hs2 hz hTK
 go_enter Tryz.func59,Tryz.ntmps59
 go_wp2_with fail
 refine wp_region_held_drew (S:=fun W=>W.cell? ⟨t,1,none⟩=some (.pointer (some ⟨p,0,none⟩))) (by kernel_rfl) hc (fun hHeld=>?_)
 have HG0:=qh (grown_drew (grown_refl w2 none))
 generalize w2.drew=W0 at hHeld HG0 ⊢
 refine tl 0 ?_ rfl ?_ ?_ (tl 1 ?_ rfl ?_ ?_ (tl 2 ?_ rfl ?_ ?_ (tl 3 ?_ rfl ?_ ?_ (tl 4 ?_ rfl ?_ ?_ (tl 5 ?_ rfl ?_ ?_ ?_)))))
 iterate 6 (rotate_left;(next=>(try simp only [lay]);((intro w0 hSw;go_simp);try (with_reducible rfl)));next=>rfl)
 try simp only [lay]
 refine wpAnyH_ready (rs:=[6,11]) (by kernel_rfl) (by simp) (ac rfl (fun K hK=>?_) (ac rfl (fun K hK=>?_) AllReadyH.nil))
 ·go_simp
  (with_reducible refine (HPL.out _ (grown_trans HG2.out HG0.out)).mono ?_);rintro e X1 ⟨rfl,hgn⟩
  have HG1:=qh (grown_trans HG0.out hgn)
  go_wp2_with fail
  refine hK.out _ _ ((HH.out.grown (grown_trans HG2.out HG1.out)).c1) (fun hHeld=>?_)
  clear hK K hgn
  try simp only [lay]
  refine wpAnyH_ready (rs:=[7,11]) (by kernel_rfl) (by simp) (ac rfl (fun K hK=>?_) (ac rfl (fun K hK=>?_) AllReadyH.nil))
  ·go_simp
   (with_reducible refine (HTK.out _ (grown_trans HG2.out HG1.out)).mono ?_);rintro e X2 ⟨rfl,v',hP4,hT4⟩
   have HPT:=qh hP4
   have HTT:=qh ((Turn.of_grown p v (grown_trans HG2.out HG1.out)).trans hT4)
   have hRlt:w.heap.size < X1.heap.size:=by have:=lt_of HB2.out;have:=HG1.out.size;omega
   have hRv:some w.heap.size ≠ v.ownBlock:=fun e=>by have:=HV.out _ e.symm;omega
   have HRT:=qh ((hT4.block w.heap.size hRlt (by have:=HP.out;omega) hRv).trans ((HG1.out.block w.heap.size (lt_of HB2.out) (by simp)).trans HB2.out))
   have HVR:Hid (v'.ownBlock ≠ some w.heap.size):=qh (fun e=>hT4.next.ne hRlt hRv e.symm)
   have hcT:=(World.cell?_of_block (a:=⟨t,1,none⟩) (HTT.out.block t HH.out.lt HH.out.tp HH.out.tv)).trans HH.out.c1
   go_wp2_with fail
   refine hK.out _ _ hcT (fun hHeld=>?_)
   clear hK K hcT hP4 hT4 hRlt hRv
   try simp only [lay]
   refine tl 8 ?_ rfl ?_ ?_ (tl 9 ?_ rfl ?_ ?_ (tl 10 ?_ rfl ?_ ?_ ?_))
   iterate 3 (rotate_left;(next=>(try simp only [lay]);((intro w0 hSw;go_simp);try (with_reducible rfl)));next=>rfl)
   try simp only [lay]
   refine wpAnyH_ready (rs:=[11]) (by kernel_rfl) (by simp) (ac rfl (fun K hK=>?_) AllReadyH.nil)
   ·go_simp
    refine hK.out _ _ ((World.cell?_alloc_some _ _ _ (by rw [hHeld];rfl)).trans hHeld) (fun hHeld=>?_)
    clear hK K
    try simp only [lay]
    have HBG:=qh (heap_alloc_new X2 (.cells (ba zb) 156))
    have HSG:=qh (show X2.heap.size=X2.heap.size from rfl)
    obtain ⟨g,hgg⟩:∃ g,X2.heap.size=g:=⟨_,rfl⟩
    rw [hgg] at HBG ⊢
    have HGG:=qh hgg
    clear hgg
    have HPX:=qh (HPT.out.grown (grown_alloc (grown_refl X2 none) (.cells (ba zb) 156)))
    have HTX:=qh (HTT.out.trans (Turn.of_grown p v' (grown_alloc (grown_refl X2 none) (.cells (ba zb) 156))))
    have HRX:=qh ((Below.heap_alloc X2 (.cells (ba zb) 156) _ (lt_of HRT.out)).trans HRT.out)
    have HWX:Hid (X2.alloc (.cells (ba zb) 156)=_):=qh rfl
    obtain ⟨X3,hX⟩:∃ X,X2.alloc (.cells (ba zb) 156)=X:=⟨_,rfl⟩
    have hX':X2.alloc (.cells #[.int .i64 0,.int .u32 0,.int .u32 0,.int .u32 0,.int .u32 0,.int .u32 0,.int .u32 0,.int .u32 0,.int .u32 0,.int .u32 0,.int .u32 0,.int .u32 0,.int .u32 0,.int .u32 0,.int .u32 0,.int .u32 0,.int .u32 0,.bool false] 156)=X3:=hX
    rw [hX'] at hHeld ⊢
    rw [hX] at HBG HPX HTX HRX
    clear hX hX' HWX HSG
    have HTG:Hid (t ≠ g):=qh (by have:=HH.out.lt;have:=HG2.out.size;have:=HTT.out.size;have:=HGG.out;omega)
    have HM:Hid (Met w X3 p g w.heap.size 35 (row zd) v v' m ns'):=qh ⟨HPX.out,HTX.out,HBG.out,HRX.out,by have:=HTT.out.size;have:=HGG.out;omega,by have:=lt_of HRT.out;have:=HGG.out;omega,Nat.le_refl _,fun e=>by have:=HPT.out.sl.lt _ e;have:=HGG.out;omega,HVR.out⟩
    have hst4:=store_at x X3 g _ HM.out.var rfl
    refine rd 12 rfl fun K hK=>?_
    go_simp
    refine hK.out _ _ (show (X3.setCells g 0 (bt x)).cell? ⟨t,1,none⟩=_ from (World.cell?_of_block (heap_setCells_other g t HTG.out _ _ _)).trans hHeld) (fun hHeld=>?_)
    clear hK K
    try simp only [lay]
    refine tl 13 ?_ rfl ?_ ?_ ?_
    (rotate_left;(next=>((intro w0 hSw;go_simp);try (with_reducible rfl)));next=>rfl)
    try simp only [lay]
    refine wpAnyH_done (by kernel_rfl) ?_ _
    have HR5:Hid ((X3.setCells g 0 (bt x)).rangeAt g 0 (bt x)):=qh (range_at x X3 g _ HM.out.var rfl)
    have HE5:Hid ((X3.setCells g 0 (bt x)).heap[w.heap.size]?=_):=qh ((heap_setCells_other g w.heap.size HM.out.ne _ _ _).trans HM.out.res)
    have HZ5:=qh (setCells_rest g (bt x) 0 X3)
    have HO5:Hid (∀ k,k ≠ g→(X3.setCells g 0 (bt x)).heap[k]?=X3.heap[k]?):=qh (fun k hk=>heap_setCells_other g k hk _ _ _)
    clear hst4
    generalize X3.setCells g 0 (bt x)=Y at *
    go_wp2_with fail
    obtain ⟨ty,sz,HTY,hagg,hsize,hld,hsr,hst⟩:=named29
    have hsr:=hsr x.d x.hd
    have hl1:=hld g 1 x.d x.hd Y.drew (range_d HR5.out)
    have h17:Y.cell? ⟨g,17,none⟩=some (.bool x.l):=cell_at HR5.out 17 _ (bt_l x)
    have hs2:=hst w.heap.size 0 x.d x.hd Y.drew (there16 HE5.out rfl)
    have hs17:(Y.drew.setCells w.heap.size 0 (x.d.map U)).cell? ⟨g,17,none⟩=some (.bool x.l):=(World.cell?_of_block (heap_setCells_other w.heap.size g (Ne.symm HM.out.ne) _ _ _)).trans h17
    clear hld hst
    rw [HTY.out.1,HTY.out.2]
    go_region
    all_goals
     have HRR:Hid ((Y.drew.setCells w.heap.size 0 (x.d.map U)).rangeAt w.heap.size 0 (x.d.map U)):=qh (World.rangeAt_setCells_same _ _ _ _ (fun i hi=>(there16 (w:=Y.drew) HE5.out rfl) i (by simpa [x.hd] using hi)))
     have HZ6:=qh (setCells_rest w.heap.size (x.d.map U) 0 Y.drew)
     have hfin:=aside (W3:=w) (grown_refl _ _) HP.out HM.out.turn HM.out.pool (W5:=Y.drew.setCells w.heap.size 0 (x.d.map U)) (HZ6.out.1.trans HZ5.out.1) (HZ6.out.2.1.trans HZ5.out.2.1) (HZ6.out.2.2.1.trans HZ5.out.2.2.1) (by have h1:=HZ5.out.2.2.2;have h2:=HZ6.out.2.2.2;rw [h2];show _ ≤ Y.heap.size;omega) (fun k hk hk2=>(heap_setCells_other _ k (by rcases hk2 with h | h;omega;exact fun e=>HM.out.vr (e ▸ h)) _ _ _).trans (HO5.out k (by rcases hk2 with h | h;(have:=HM.out.ge;omega);exact fun e=>HM.out.vg (e ▸ h))))
     clear hl1 h17 hs2 hs17
     go_wp2_with fail
     exact ret_row3 rfl _ x.d x.hd _ _ w.heap.size _ _ (by rfl) (by rfl) (by rfl) HRR.out ⟨rfl,v',hfin.1,hfin.2⟩
  ·go_simp
   refine hK.out _ _ ((World.cell?_alloc_some _ _ _ (by rw [hHeld];rfl)).trans hHeld) (fun hHeld=>?_)
   clear hK K
   try simp only [lay]
   have HBG:=qh (heap_alloc_new X1 (.cells (ba zb) 156))
   have HSG:=qh (show X1.heap.size=X1.heap.size from rfl)
   obtain ⟨g,hgg⟩:∃ g,X1.heap.size=g:=⟨_,rfl⟩
   rw [hgg] at HBG ⊢
   have HGG:=qh hgg
   have HGL:Hid (w2.heap.size ≤ g):=qh (by have:=HG1.out.size;omega)
   clear hgg
   have HG4:=qh (grown_alloc HG1.out (.cells (ba zb) 156))
   have HWX:Hid (X1.alloc (.cells (ba zb) 156)=_):=qh rfl
   obtain ⟨X4,hX⟩:∃ X,X1.alloc (.cells (ba zb) 156)=X:=⟨_,rfl⟩
   have hX':X1.alloc (.cells #[.int .i64 0,.int .u32 0,.int .u32 0,.int .u32 0,.int .u32 0,.int .u32 0,.int .u32 0,.int .u32 0,.int .u32 0,.int .u32 0,.int .u32 0,.int .u32 0,.int .u32 0,.int .u32 0,.int .u32 0,.int .u32 0,.int .u32 0,.bool false] 156)=X4:=hX
   rw [hX'] at hHeld ⊢
   rw [hX] at HBG HG4
   clear hX hX' HWX HSG
   refine wpAnyH_ready (rs:=[7]) (by kernel_rfl) (by simp) (ac rfl (fun K hK=>?_) AllReadyH.nil)
   ·go_simp
    (with_reducible refine (HTK.out _ (grown_trans HG2.out HG4.out)).mono ?_);rintro e X5 ⟨rfl,v',hP4,hT4⟩
    have HPT:=qh hP4
    have HTT:=qh ((Turn.of_grown p v (grown_trans HG2.out HG4.out)).trans hT4)
    have hRlt:w.heap.size < X4.heap.size:=by have:=lt_of HB2.out;have:=HG4.out.size;omega
    have hRv:some w.heap.size ≠ v.ownBlock:=fun e=>by have:=HV.out _ e.symm;omega
    have HRT:=qh ((hT4.block w.heap.size hRlt (by have:=HP.out;omega) hRv).trans ((HG4.out.block w.heap.size (lt_of HB2.out) (by simp)).trans HB2.out))
    have HVR:Hid (v'.ownBlock ≠ some w.heap.size):=qh (fun e=>hT4.next.ne hRlt hRv e.symm)
    have hglt:=lt_of HBG.out
    have hgw:w.heap.size < g:=by have:=lt_of HB2.out;have:=HGL.out;omega
    have hgv:some g ≠ v.ownBlock:=fun e=>by have:=HV.out _ e.symm;omega
    have HTG:Hid (t ≠ g):=qh (by have:=HH.out.lt;omega)
    have HM:Hid (Met w X5 p g w.heap.size 35 (row zd) v v' m ns'):=qh ⟨HPT.out,HTT.out,(hT4.block g hglt (by have:=HP.out;omega) hgv).trans HBG.out,HRT.out,by omega,by omega,Nat.le_refl _,fun e=>hT4.next.ne hglt hgv e.symm,HVR.out⟩
    have hcT:=(World.cell?_of_block (a:=⟨t,1,none⟩) (HTT.out.block t HH.out.lt HH.out.tp HH.out.tv)).trans HH.out.c1
    go_wp2_with fail
    refine hK.out _ _ hcT (fun hHeld=>?_)
    clear hK K hcT hP4 hT4 hRlt hRv hglt hgw hgv
    try simp only [lay]
    refine tl 8 ?_ rfl ?_ ?_ (tl 9 ?_ rfl ?_ ?_ (tl 10 ?_ rfl ?_ ?_ ?_))
    iterate 3 (rotate_left;(next=>(try simp only [lay]);((intro w0 hSw;go_simp);try (with_reducible rfl)));next=>rfl)
    try simp only [lay]
    have hst4:=store_at x X5 g _ HM.out.var rfl
    refine rd 12 rfl fun K hK=>?_
    go_simp
    refine hK.out _ _ (show (X5.setCells g 0 (bt x)).cell? ⟨t,1,none⟩=_ from (World.cell?_of_block (heap_setCells_other g t HTG.out _ _ _)).trans hHeld) (fun hHeld=>?_)
    clear hK K
    try simp only [lay]
    refine tl 13 ?_ rfl ?_ ?_ ?_
    (rotate_left;(next=>((intro w0 hSw;go_simp);try (with_reducible rfl)));next=>rfl)
    try simp only [lay]
    refine wpAnyH_done (by kernel_rfl) ?_ _
    have HR5:Hid ((X5.setCells g 0 (bt x)).rangeAt g 0 (bt x)):=qh (range_at x X5 g _ HM.out.var rfl)
    have HE5:Hid ((X5.setCells g 0 (bt x)).heap[w.heap.size]?=_):=qh ((heap_setCells_other g w.heap.size HM.out.ne _ _ _).trans HM.out.res)
    have HZ5:=qh (setCells_rest g (bt x) 0 X5)
    have HO5:Hid (∀ k,k ≠ g→(X5.setCells g 0 (bt x)).heap[k]?=X5.heap[k]?):=qh (fun k hk=>heap_setCells_other g k hk _ _ _)
    clear hst4
    generalize X5.setCells g 0 (bt x)=Y at *
    go_wp2_with fail
    obtain ⟨ty,sz,HTY,hagg,hsize,hld,hsr,hst⟩:=named29
    have hsr:=hsr x.d x.hd
    have hl1:=hld g 1 x.d x.hd Y.drew (range_d HR5.out)
    have h17:Y.cell? ⟨g,17,none⟩=some (.bool x.l):=cell_at HR5.out 17 _ (bt_l x)
    have hs2:=hst w.heap.size 0 x.d x.hd Y.drew (there16 HE5.out rfl)
    have hs17:(Y.drew.setCells w.heap.size 0 (x.d.map U)).cell? ⟨g,17,none⟩=some (.bool x.l):=(World.cell?_of_block (heap_setCells_other w.heap.size g (Ne.symm HM.out.ne) _ _ _)).trans h17
    clear hld hst
    rw [HTY.out.1,HTY.out.2]
    go_region
    all_goals
     have HRR:Hid ((Y.drew.setCells w.heap.size 0 (x.d.map U)).rangeAt w.heap.size 0 (x.d.map U)):=qh (World.rangeAt_setCells_same _ _ _ _ (fun i hi=>(there16 (w:=Y.drew) HE5.out rfl) i (by simpa [x.hd] using hi)))
     have HZ6:=qh (setCells_rest w.heap.size (x.d.map U) 0 Y.drew)
     have hfin:=aside (W3:=w) (grown_refl _ _) HP.out HM.out.turn HM.out.pool (W5:=Y.drew.setCells w.heap.size 0 (x.d.map U)) (HZ6.out.1.trans HZ5.out.1) (HZ6.out.2.1.trans HZ5.out.2.1) (HZ6.out.2.2.1.trans HZ5.out.2.2.1) (by have h1:=HZ5.out.2.2.2;have h2:=HZ6.out.2.2.2;rw [h2];show _ ≤ Y.heap.size;omega) (fun k hk hk2=>(heap_setCells_other _ k (by rcases hk2 with h | h;omega;exact fun e=>HM.out.vr (e ▸ h)) _ _ _).trans (HO5.out k (by rcases hk2 with h | h;(have:=HM.out.ge;omega);exact fun e=>HM.out.vg (e ▸ h))))
     clear hl1 h17 hs2 hs17
     go_wp2_with fail
     exact ret_row3 rfl _ x.d x.hd _ _ w.heap.size _ _ (by rfl) (by rfl) (by rfl) HRR.out ⟨rfl,v',hfin.1,hfin.2⟩
 ·go_simp
  refine hK.out _ _ ((World.cell?_alloc_some _ _ _ (by rw [hHeld];rfl)).trans hHeld) (fun hHeld=>?_)
  clear hK K
  try simp only [lay]
  have HBG:=qh (heap_alloc_new W0 (.cells (ba zb) 156))
  have HSG:=qh (show W0.heap.size=W0.heap.size from rfl)
  obtain ⟨g,hgg⟩:∃ g,W0.heap.size=g:=⟨_,rfl⟩
  rw [hgg] at HBG ⊢
  have HGG:=qh hgg
  have HGL:Hid (w2.heap.size ≤ g):=qh (by have:=HG0.out.size;omega)
  clear hgg
  have HG6:=qh (grown_alloc HG0.out (.cells (ba zb) 156))
  have HWX:Hid (W0.alloc (.cells (ba zb) 156)=_):=qh rfl
  obtain ⟨X6,hX⟩:∃ X,W0.alloc (.cells (ba zb) 156)=X:=⟨_,rfl⟩
  have hX':W0.alloc (.cells #[.int .i64 0,.int .u32 0,.int .u32 0,.int .u32 0,.int .u32 0,.int .u32 0,.int .u32 0,.int .u32 0,.int .u32 0,.int .u32 0,.int .u32 0,.int .u32 0,.int .u32 0,.int .u32 0,.int .u32 0,.int .u32 0,.int .u32 0,.bool false] 156)=X6:=hX
  rw [hX'] at hHeld ⊢
  rw [hX] at HBG HG6
  clear hX hX' HWX HSG
  refine wpAnyH_ready (rs:=[6]) (by kernel_rfl) (by simp) (ac rfl (fun K hK=>?_) AllReadyH.nil)
  ·go_simp
   (with_reducible refine (HPL.out _ (grown_trans HG2.out HG6.out)).mono ?_);rintro e X7 ⟨rfl,hgn⟩
   have HG7:=qh (grown_trans HG6.out hgn)
   replace HBG:=qh ((hgn.block g (lt_of HBG.out) (by simp)).trans HBG.out)
   go_wp2_with fail
   refine hK.out _ _ ((HH.out.grown (grown_trans HG2.out HG7.out)).c1) (fun hHeld=>?_)
   clear hK K hgn
   try simp only [lay]
   refine wpAnyH_ready (rs:=[7]) (by kernel_rfl) (by simp) (ac rfl (fun K hK=>?_) AllReadyH.nil)
   ·go_simp
    (with_reducible refine (HTK.out _ (grown_trans HG2.out HG7.out)).mono ?_);rintro e X8 ⟨rfl,v',hP4,hT4⟩
    have HPT:=qh hP4
    have HTT:=qh ((Turn.of_grown p v (grown_trans HG2.out HG7.out)).trans hT4)
    have hRlt:w.heap.size < X7.heap.size:=by have:=lt_of HB2.out;have:=HG7.out.size;omega
    have hRv:some w.heap.size ≠ v.ownBlock:=fun e=>by have:=HV.out _ e.symm;omega
    have HRT:=qh ((hT4.block w.heap.size hRlt (by have:=HP.out;omega) hRv).trans ((HG7.out.block w.heap.size (lt_of HB2.out) (by simp)).trans HB2.out))
    have HVR:Hid (v'.ownBlock ≠ some w.heap.size):=qh (fun e=>hT4.next.ne hRlt hRv e.symm)
    have hglt:=lt_of HBG.out
    have hgw:w.heap.size < g:=by have:=lt_of HB2.out;have:=HGL.out;omega
    have hgv:some g ≠ v.ownBlock:=fun e=>by have:=HV.out _ e.symm;omega
    have HTG:Hid (t ≠ g):=qh (by have:=HH.out.lt;omega)
    have HM:Hid (Met w X8 p g w.heap.size 35 (row zd) v v' m ns'):=qh ⟨HPT.out,HTT.out,(hT4.block g hglt (by have:=HP.out;omega) hgv).trans HBG.out,HRT.out,by omega,by omega,Nat.le_refl _,fun e=>hT4.next.ne hglt hgv e.symm,HVR.out⟩
    have hcT:=(World.cell?_of_block (a:=⟨t,1,none⟩) (HTT.out.block t HH.out.lt HH.out.tp HH.out.tv)).trans HH.out.c1
    go_wp2_with fail
    refine hK.out _ _ hcT (fun hHeld=>?_)
    clear hK K hcT hP4 hT4 hRlt hRv hglt hgw hgv
    try simp only [lay]
    refine tl 8 ?_ rfl ?_ ?_ (tl 9 ?_ rfl ?_ ?_ (tl 10 ?_ rfl ?_ ?_ ?_))
    iterate 3 (rotate_left;(next=>(try simp only [lay]);((intro w0 hSw;go_simp);try (with_reducible rfl)));next=>rfl)
    try simp only [lay]
    have hst4:=store_at x X8 g _ HM.out.var rfl
    refine rd 12 rfl fun K hK=>?_
    go_simp
    refine hK.out _ _ (show (X8.setCells g 0 (bt x)).cell? ⟨t,1,none⟩=_ from (World.cell?_of_block (heap_setCells_other g t HTG.out _ _ _)).trans hHeld) (fun hHeld=>?_)
    clear hK K
    try simp only [lay]
    refine tl 13 ?_ rfl ?_ ?_ ?_
    (rotate_left;(next=>((intro w0 hSw;go_simp);try (with_reducible rfl)));next=>rfl)
    try simp only [lay]
    refine wpAnyH_done (by kernel_rfl) ?_ _
    have HR5:Hid ((X8.setCells g 0 (bt x)).rangeAt g 0 (bt x)):=qh (range_at x X8 g _ HM.out.var rfl)
    have HE5:Hid ((X8.setCells g 0 (bt x)).heap[w.heap.size]?=_):=qh ((heap_setCells_other g w.heap.size HM.out.ne _ _ _).trans HM.out.res)
    have HZ5:=qh (setCells_rest g (bt x) 0 X8)
    have HO5:Hid (∀ k,k ≠ g→(X8.setCells g 0 (bt x)).heap[k]?=X8.heap[k]?):=qh (fun k hk=>heap_setCells_other g k hk _ _ _)
    clear hst4
    generalize X8.setCells g 0 (bt x)=Y at *
    go_wp2_with fail
    obtain ⟨ty,sz,HTY,hagg,hsize,hld,hsr,hst⟩:=named29
    have hsr:=hsr x.d x.hd
    have hl1:=hld g 1 x.d x.hd Y.drew (range_d HR5.out)
    have h17:Y.cell? ⟨g,17,none⟩=some (.bool x.l):=cell_at HR5.out 17 _ (bt_l x)
    have hs2:=hst w.heap.size 0 x.d x.hd Y.drew (there16 HE5.out rfl)
    have hs17:(Y.drew.setCells w.heap.size 0 (x.d.map U)).cell? ⟨g,17,none⟩=some (.bool x.l):=(World.cell?_of_block (heap_setCells_other w.heap.size g (Ne.symm HM.out.ne) _ _ _)).trans h17
    clear hld hst
    rw [HTY.out.1,HTY.out.2]
    go_region
    all_goals
     have HRR:Hid ((Y.drew.setCells w.heap.size 0 (x.d.map U)).rangeAt w.heap.size 0 (x.d.map U)):=qh (World.rangeAt_setCells_same _ _ _ _ (fun i hi=>(there16 (w:=Y.drew) HE5.out rfl) i (by simpa [x.hd] using hi)))
     have HZ6:=qh (setCells_rest w.heap.size (x.d.map U) 0 Y.drew)
     have hfin:=aside (W3:=w) (grown_refl _ _) HP.out HM.out.turn HM.out.pool (W5:=Y.drew.setCells w.heap.size 0 (x.d.map U)) (HZ6.out.1.trans HZ5.out.1) (HZ6.out.2.1.trans HZ5.out.2.1) (HZ6.out.2.2.1.trans HZ5.out.2.2.1) (by have h1:=HZ5.out.2.2.2;have h2:=HZ6.out.2.2.2;rw [h2];show _ ≤ Y.heap.size;omega) (fun k hk hk2=>(heap_setCells_other _ k (by rcases hk2 with h | h;omega;exact fun e=>HM.out.vr (e ▸ h)) _ _ _).trans (HO5.out k (by rcases hk2 with h | h;(have:=HM.out.ge;omega);exact fun e=>HM.out.vg (e ▸ h))))
     clear hl1 h17 hs2 hs17
     go_wp2_with fail
     exact ret_row3 rfl _ x.d x.hd _ _ w.heap.size _ _ (by rfl) (by rfl) (by rfl) HRR.out ⟨rfl,v',hfin.1,hfin.2⟩
end
end Go.Proofs.YtcoimipgilkmbaaGreatDoor.bk
namespace Go.Proofs.YtcoimipgilkmbaaGreatDoor.bk
set_option linter.unusedVariables false
set_option linter.unusedSimpArgs false
set_option maxRecDepth 1000000
set_option maxHeartbeats 16000000
open Go Go.ChangeShapes Go.WideShapes Go.ChangeAt Go.RowKit
open Go.Proofs.YtcoimipgilkmbaaGreatDoor.tt (Cfg Tab CfgAt cfg_at U zd row tyne add_lit lt_of range_grown heap_setCells_other setCells_rest grown_setCells grown_setRow grown_new grown_drewN below_of grown_alloc grown_refl grown_trans grown_drew Sl Pool Turn Next flat)
def fd (o:Option Bk):List Int:=match o with | some x=>x.d | none=>zd
def fl (o:Option Bk):Bool:=match o with | some x=>x.l | none=>false
theorem fd_len (o:Option Bk):(fd o).length=16:=by
 cases o with
 | none=>rfl
 | some x=>exact x.hd
theorem dead_set (x:Bk):(ba x).setIfInBounds 17 (.bool false)=ba (dead x):=by
 obtain ⟨b,d,l,hd⟩:=x
 match d,hd with
 | [d0,d1,d2,d3,d4,d5,d6,d7,d8,d9,d10,d11,d12,d13,d14,d15],_=>rfl
section
variable (t p:Nat) (v:Value) (n:Int) (m:Nat) (ns:List Bk) (w:World) (H:BkAt w t p v n m ns)
include H
theorem take_any (b:Int):Calls Tryz.prog 168 #[.pointer (some ⟨t,0,none⟩),.int .i64 b] w fun e w'=>e = .returned (.tuple #[.agg (ba ((look ns b).getD zb)),.bool (look ns b).isSome])∧∃ v',BkAt w' t p v' n m (rem ns b)∧Turn w w' p v v':=by
 rcases ff_look ns b with ⟨h1,h2⟩ | ⟨k,x,h1,h2,h3,h4⟩
 ·rw [h1,rem_none h1]
  refine (take_gen t p v n m ns w H b (-1) zb 5 ns h2 fun w' h=>(ptake_out p v m ns (-1) w' (H.grown h).pool (Or.inl (by omega))).mono ?_).mono ?_
  ·rintro e w'' ⟨rfl,hg⟩
   exact ⟨rfl,v,(H.grown (grown_trans h hg)).pool,Turn.of_grown _ _ hg⟩
  ·rintro e w' ⟨rfl,v',hP,hT⟩
   exact ⟨rfl,v',H.next hT hP H.len,hT⟩
 ·rw [h1]
  refine (take_gen t p v n m ns w H b k x 0 (rem ns b) h2 fun w' h=>(ptake_in p v m ns k x w' (H.grown h).pool h3 H.short).mono ?_).mono ?_
  ·rintro e w'' ⟨rfl,v',hP,hT⟩
   rw [h4] at hP
   exact ⟨rfl,v',hP,hT⟩
  ·rintro e w' ⟨rfl,v',hP,hT⟩
   exact ⟨rfl,v',H.next hT hP (Nat.le_trans (rem_le ns b) H.len),hT⟩
theorem find_any (b:Int):Calls Tryz.prog 59 #[.pointer (some ⟨t,0,none⟩),.int .i64 b] w fun e w'=>e = .returned (.tuple #[.agg (row (fd (look ns b))),.bool (fl (look ns b)),.bool (look ns b).isSome])∧∃ v',BkAt w' t p v' n m ns∧Turn w w' p v v':=by
 rcases ff_look ns b with ⟨h1,h2⟩ | ⟨k,x,h1,h2,h3,h4⟩
 ·rw [h1]
  refine (find_gen t p v n m ns w H b (-1) zb 5 ns h2 fun w' h=>(pat_out p v m ns (-1) w' (H.grown h).pool (Or.inl (by omega))).mono ?_).mono ?_
  ·rintro e w'' ⟨rfl,hg⟩
   exact ⟨rfl,v,(H.grown (grown_trans h hg)).pool,Turn.of_grown _ _ hg⟩
  ·rintro e w' ⟨rfl,v',hP,hT⟩
   exact ⟨rfl,v',H.next hT hP H.len,hT⟩
 ·rw [h1]
  refine (find_gen t p v n m ns w H b k x 0 ns h2 fun w' h=>(pat_in p v m ns k x w' (H.grown h).pool h3).mono ?_).mono ?_
  ·rintro e w'' ⟨rfl,hg⟩
   exact ⟨rfl,v,(H.grown (grown_trans h hg)).pool,Turn.of_grown _ _ hg⟩
  ·rintro e w' ⟨rfl,v',hP,hT⟩
   exact ⟨rfl,v',H.next hT hP H.len,hT⟩
theorem drop_any (b:Int):Calls Tryz.prog 139 #[.pointer (some ⟨t,0,none⟩),.int .i64 b] w fun e w'=>e = .returned (.bool (look ns b).isSome)∧∃ v',BkAt w' t p v' n m (rem ns b)∧Turn w w' p v v':=by
 have HT:=qh (take_any t p v n m ns w H b)
 obtain ⟨x,hx⟩:∃ x,x=(look ns b).getD zb:=⟨_,rfl⟩
 obtain ⟨q,hq⟩:∃ q,q=(look ns b).isSome:=⟨_,rfl⟩
 rw [← hx,← hq] at HT
 rw [← hq]
 clear H hx hq
 go_enter Tryz.func139,Tryz.ntmps139
 go_wp2_with (first
  | (go_at_call 168;((with_reducible refine HT.out.mono ?_);rintro e w1 ⟨rfl,v',hB,hT⟩;have HB:=qh hB;have HT1:=qh hT;clear hB hT))
  | ((with_reducible refine store_new x _ _ _ ?_ ?_ ?_ ?_);(rfl);(rfl);(rfl)))
 go_ret
 exact ⟨rfl,v',HB.out.grown (grown_alloc (grown_refl _ _) _),HT1.out.trans (Turn.of_grown p v' (grown_alloc (grown_refl _ _) _))⟩
theorem kill_no (b:Int) (hno:look ns b=none):Calls Tryz.prog 170 #[.pointer (some ⟨t,0,none⟩),.int .i64 b] w fun e w'=>e = .returned (.bool false)∧∃ v',BkAt w' t p v' n m ns∧Turn w w' p v v':=by
 have HT:=qh (take_any t p v n m ns w H b)
 rw [hno,rem_none hno] at HT
 simp only [Option.getD_none,Option.isSome_none] at HT
 clear H hno
 go_enter Tryz.func170,Tryz.ntmps170
 go_wp2_with (first
  | (go_at_call 168;((with_reducible refine HT.out.mono ?_);rintro e w1 ⟨rfl,v',hB,hT⟩;have HB:=qh hB;have HT1:=qh hT;clear hB hT))
  | ((with_reducible refine store_new zb _ _ _ ?_ ?_ ?_ ?_);(rfl);(rfl);(rfl)))
 go_ret
 exact ⟨rfl,v',HB.out.grown (grown_alloc (grown_refl _ _) _),HT1.out.trans (Turn.of_grown p v' (grown_alloc (grown_refl _ _) _))⟩
theorem kill_yes (b:Int) (x:Bk) (hx:look ns b=some x):Calls Tryz.prog 170 #[.pointer (some ⟨t,0,none⟩),.int .i64 b] w fun e w'=>e = .returned (.bool x.l)∧∃ v',BkAt w' t p v' n m (rem ns b ++ [dead x])∧Turn w w' p v v':=by
 have HT:=qh (take_any t p v n m ns w H b)
 have hlen:=rem_len hx
 have HL:=qh (show (rem ns b).length < m by have:=H.len;omega)
 have HRM:=qh H.room
 rw [hx] at HT
 simp only [Option.getD_some,Option.isSome_some] at HT
 obtain ⟨rs,hrs⟩:∃ rs,rs=rem ns b:=⟨_,rfl⟩
 rw [← hrs] at HT HL ⊢
 have h17:(ba x)[17]?=some (.bool x.l):=by have:=bt_l x;simpa [ba] using this
 clear H hx hlen hrs
 go_enter Tryz.func170,Tryz.ntmps170
 go_wp2_with (first
  | (go_at_call 168;((with_reducible refine HT.out.mono ?_);rintro e w1 ⟨rfl,v',hB,hT⟩;have HB:=qh hB;have HT1:=qh hT;have c17:=box w1 x 17 _ (bt_l x);clear hB hT))
  | ((with_reducible refine store_new x _ _ _ ?_ ?_ ?_ ?_);(rfl);(rfl);(rfl)))
 rw [dead_set]
 obtain ⟨W2,hW2⟩:∃ W2,w1.alloc (.cells (ba (dead x)) 156)=W2:=⟨_,rfl⟩
 have hg2:w1.grownBy W2 none:=by rw [← hW2];exact grown_alloc (grown_refl _ _) _
 have HB2:=qh (HB.out.grown hg2)
 have hc:=HB2.out.c1
 have HN:Hid (W2.heap[w1.heap.size]?=some (.cells (ba (dead x)) 156 (0,0))):=qh (by rw [← hW2];exact heap_alloc_new _ _)
 have HG2:=qh hg2
 rw [hW2]
 clear hW2 hg2 h17 c17
 obtain ⟨tn,mm,HTT,hagg,hsize,hld⟩:=named
 rw [HTT.out]
 have HL1:Hid (∀ W,W2.grownBy W none→(loadCellsFrom ⟨w1.heap.size,0,none⟩ 0 mm #[]).run Tryz.prog W = .ok (ba (dead x)) W):=qh fun W h=>hld w1.heap.size (dead x) W (range_of ((h.block _ (lt_of HN.out) (by simp)).trans HN.out))
 have HPT:=qh fun (W:World) (h:W2.grownBy W none)=>pput_ok p v' m rs (dead x) W (HB2.out.grown h).pool HL.out HRM.out
 refine wp_region_held_drew (S:=fun W=>W.cell? ⟨t,1,none⟩=some (.pointer (some ⟨p,0,none⟩))∧(loadCellsFrom ⟨w1.heap.size,0,none⟩ 0 mm #[]).run Tryz.prog W = .ok (ba (dead x)) W) (by kernel_rfl) ⟨hc,HL1.out _ (grown_drew (grown_refl _ _))⟩ (fun hHeld=>?_)
 have HG0:=qh (grown_drew (grown_refl W2 none))
 generalize W2.drew=W0 at hHeld HG0 ⊢
 refine tl 0 ?_ rfl ?_ ?_ (tl 1 ?_ rfl ?_ ?_ (tl 2 ?_ rfl ?_ ?_ (tl 3 ?_ rfl ?_ ?_ ?_)))
 iterate 4 (rotate_left;(next=>(try simp only [lay]);((intro w0 hSw;have hc1:=hSw.1;go_simp);try (with_reducible rfl)));next=>rfl)
 try simp only [lay]
 refine tl 4 ?_ rfl ?_ ?_ ?_
 (rotate_left;(next=>((intro w0 hSw;have hl1:=hSw.2;go_simp);try (with_reducible rfl)));next=>rfl)
 try simp only [lay]
 refine rd 5 rfl fun K hK=>?_
 go_simp
 (with_reducible refine (HPT.out _ HG0.out).mono ?_);rintro e w3 ⟨rfl,v3,hP3,hT3⟩
 have hT4:=qh ((Turn.of_grown p v' (grown_trans HG2.out HG0.out)).trans hT3)
 have hB3:=HB.out.next hT4.out hP3 (show (rs ++ [dead x]).length ≤ m by have:=HL.out;simp;omega)
 have hl3:=hld w1.heap.size (dead x) w3 (range_of ((hT3.block w1.heap.size (by have:=lt_of HN.out;have:=HG0.out.size;omega) (by have:=HB.out.pool.lt;omega) (fun e=>by have:=HB.out.pool.sl.lt _ e.symm;omega)).trans ((HG0.out.block _ (lt_of HN.out) (by simp)).trans HN.out)))
 have HS3:=qh (And.intro hB3.c1 hl3)
 clear hB3 hl3 hld
 have HP3:=qh hP3
 clear hP3 hT3
 go_wp2_with fail
 refine hK.out _ _ HS3.out (fun _=>?_)
 clear hK K
 try simp only [lay]
 refine wpAnyH_done (by kernel_rfl) ?_ _
 go_wp2_with fail
 go_ret
 exact ⟨rfl,v3,HB.out.next hT4.out HP3.out (by have:=HL.out;simp;omega),HT1.out.trans hT4.out⟩
def kills (ns:List Bk) (b:Int):List Bk:=match look ns b with | some x=>rem ns b ++ [dead x] | none=>ns
theorem kill_any (b:Int):Calls Tryz.prog 170 #[.pointer (some ⟨t,0,none⟩),.int .i64 b] w fun e w'=>e = .returned (.bool (fl (look ns b)))∧∃ v',BkAt w' t p v' n m (kills ns b)∧Turn w w' p v v':=by
 unfold kills
 cases h:look ns b with
 | none=>exact kill_no t p v n m ns w H b h
 | some x=>exact kill_yes t p v n m ns w H b x h
end
theorem build_fold (b:Int) (d:List Int) (hd:d.length=16):Array.foldl (fun (cs:Array Value) (x:Value × Nat)=>cs.setIfInBounds (1 + x.snd) x.fst) #[.int .i64 b,.int .u32 0,.int .u32 0,.int .u32 0,.int .u32 0,.int .u32 0,.int .u32 0,.int .u32 0,.int .u32 0,.int .u32 0,.int .u32 0,.int .u32 0,.int .u32 0,.int .u32 0,.int .u32 0,.int .u32 0,.int .u32 0,.bool false] (row d).zipIdx 0 16=ba ⟨b,d,false,hd⟩:=by
 match d,hd with
 | [d0,d1,d2,d3,d4,d5,d6,d7,d8,d9,d10,d11,d12,d13,d14,d15],_=>simp [row,ba,bt]
theorem build_live (b:Int) (d:List Int) (hd:d.length=16):(ba ⟨b,d,false,hd⟩).setIfInBounds 17 (.bool true)=ba (fresh b d hd):=by
 match d,hd with
 | [d0,d1,d2,d3,d4,d5,d6,d7,d8,d9,d10,d11,d12,d13,d14,d15],_=>rfl
section
variable (t p:Nat) (v:Value) (n:Int) (m:Nat) (ns:List Bk) (w:World) (H:BkAt w t p v n m ns)
include H
theorem put_bad (b:Int) (d:List Int) (hd:d.length=16) (hb:b < 0 ∨ n ≤ b):Calls Tryz.prog 129 #[.pointer (some ⟨t,0,none⟩),.int .i64 b,.agg (row d)] w fun e w'=>e = .returned (.int .i64 2)∧w.grownBy w' none:=by
 have hg:w.grownBy (w.alloc (.cells (row d) 35)) none:=grown_alloc (grown_refl _ _) _
 have hc0:=(H.grown hg).c0
 have HG:=qh hg
 clear H hg
 by_cases h0:b < 0
 ·clear hb
  go_enter Tryz.func129,Tryz.ntmps129
  go_wp2
  go_ret
  exact ⟨rfl,HG.out⟩
 ·have h1:n ≤ b:=by omega
  clear hb
  go_enter Tryz.func129,Tryz.ntmps129
  go_wp2
  go_ret
  exact ⟨rfl,HG.out⟩
theorem put_there (b:Int) (d:List Int) (hd:d.length=16) (h0:0 ≤ b) (h1:b < n) (k:Nat) (hff:ff ns b 0=(k:Int)):Calls Tryz.prog 129 #[.pointer (some ⟨t,0,none⟩),.int .i64 b,.agg (row d)] w fun e w'=>e = .returned (.int .i64 8)∧w.grownBy w' none:=by
 have hg:w.grownBy (w.alloc (.cells (row d) 35)) none:=grown_alloc (grown_refl _ _) _
 have hc0:=(H.grown hg).c0
 have HPL:=qh (place_any t p v n m ns _ (H.grown hg) b)
 rw [hff] at HPL
 have HG:=qh hg
 clear H hg hff
 go_enter Tryz.func129,Tryz.ntmps129
 go_wp2_with (go_at_call 101;((with_reducible refine HPL.out.mono ?_);rintro e w1 ⟨rfl,hg1⟩;have HG1:=qh hg1;clear hg1))
 go_ret
 exact ⟨rfl,grown_trans HG.out HG1.out⟩
theorem put_gen (b:Int) (d:List Int) (hd:d.length=16) (h0:0 ≤ b) (h1:b < n) (hff:ff ns b 0=-1) (e0:Int) (ns':List Bk) (hl':ns'.length ≤ m) (hPT:∀ w',w.grownBy w' none→Calls Tryz.prog 165 #[.pointer (some ⟨p,0,none⟩),.agg (ba (fresh b d hd))] w' fun e' w''=>e' = .returned (.int .i64 e0)∧∃ v',BPool w'' p v' m ns'∧Turn w' w'' p v v') :
  Calls Tryz.prog 129 #[.pointer (some ⟨t,0,none⟩),.int .i64 b,.agg (row d)] w fun e w'=>e = .returned (.int .i64 e0)∧∃ v',BkAt w' t p v' n m ns'∧Turn w w' p v v':=by
 have hg:w.grownBy (w.alloc (.cells (row d) 35)) none:=grown_alloc (grown_refl _ _) _
 have hc0:=(H.grown hg).c0
 have HPL:=qh (place_any t p v n m ns _ (H.grown hg) b)
 rw [hff] at HPL
 have HG:=qh hg
 have HH:=qh H
 have HPT:=qh hPT
 have HD:Hid ((w.alloc (.cells (row d) 35)).rangeAt w.heap.size 0 (d.map U)):=qh fun j u hu=>by
  rw [Nat.zero_add,cell_of_row _ _ j _ _ _ (heap_alloc_new w (.cells (row d) 35))]
  simpa [row] using hu
 clear H hg hff hPT
 go_enter Tryz.func129,Tryz.ntmps129
 go_wp2_with (go_at_call 101;((with_reducible refine HPL.out.mono ?_);rintro e w1 ⟨rfl,hg1⟩;have HG1:=qh hg1;clear hg1))
 have hgw:=grown_trans HG.out HG1.out
 have hc1:=(HH.out.grown hgw).c1
 obtain ⟨ty,sz,HTY,hagg,hsize,hld,hsr,hst⟩:=named29
 have HL1:Hid (∀ W,w1.grownBy W none→(loadCellsFrom ⟨w.heap.size,0,none⟩ 0 sz #[]).run Tryz.prog W = .ok (row d) W):=qh fun W h=>hld w.heap.size 0 d hd W (range_grown HD.out (own:=none) (grown_trans HG1.out h) (by simp))
 have HGW:=qh hgw
 clear hst hc0 hgw hsr
 rw [HTY.out.1]
 refine wp_region_held_drew (S:=fun W=>W.cell? ⟨t,1,none⟩=some (.pointer (some ⟨p,0,none⟩))∧(loadCellsFrom ⟨w.heap.size,0,none⟩ 0 sz #[]).run Tryz.prog W = .ok (row d) W) (by kernel_rfl) ⟨hc1,HL1.out _ (grown_drew (grown_refl _ _))⟩ (fun hHeld=>?_)
 have HG0:=qh (grown_drew (grown_refl w1 none))
 generalize w1.drew=W0 at hHeld HG0 ⊢
 refine tl 0 ?_ rfl ?_ ?_ (tl 1 ?_ rfl ?_ ?_ (tl 2 ?_ rfl ?_ ?_ (tl 3 ?_ rfl ?_ ?_ (tl 4 ?_ rfl ?_ ?_ ?_))))
 iterate 5 (rotate_left;(next=>(try simp only [lay]);((intro w0 hSw;have hc1:=hSw.1;go_simp);try (with_reducible rfl)));next=>rfl)
 try simp only [lay]
 refine tl 5 ?_ rfl ?_ ?_ ?_
 (rotate_left;(next=>((intro w0 hSw;have hl1:=hSw.2;go_simp);try (with_reducible rfl)));next=>rfl)
 try simp only [lay]
 refine tl 6 ?_ rfl ?_ ?_ ?_
 (rotate_left;(next=>((intro w0 hSw;have hb1:=build_fold b d hd;have hb2:=ba_size ⟨b,d,false,hd⟩;have hb3:=build_live b d hd;have hb4:(row d).size=16:=(by simp [row,hd]);go_simp);try (with_reducible rfl)));next=>rfl)
 try simp only [lay]
 refine rd 7 rfl fun K hK=>?_
 go_simp
 (with_reducible refine (HPT.out _ (grown_trans HGW.out HG0.out)).mono ?_);rintro e w3 ⟨rfl,v3,hP3,hT3⟩
 have hT4:=qh ((Turn.of_grown p v (grown_trans HGW.out HG0.out)).trans hT3)
 have hB3:=HH.out.next hT4.out hP3 hl'
 have hsz1:w.heap.size < w1.heap.size:=by have:=HG1.out.size;simp at this;omega
 have hl3:=hld w.heap.size 0 d hd w3 (fun j u hu=>(World.cell?_of_block (hT3.block w.heap.size (by have:=HG0.out.size;omega) (by have:=HH.out.pool.lt;omega) (fun e=>by have:=HH.out.pool.sl.lt _ e.symm;omega))).trans ((range_grown HD.out (own:=none) (grown_trans HG1.out HG0.out) (by simp)) j u hu))
 have HS3:=qh (And.intro hB3.c1 hl3)
 clear hB3 hl3 hld hsz1
 have HP3:=qh hP3
 clear hP3 hT3
 go_wp2_with fail
 refine hK.out _ _ HS3.out (fun hHeld=>?_)
 clear hK K
 try simp only [lay]
 refine tl 8 ?_ rfl ?_ ?_ ?_
 (rotate_left;(next=>((intro w0 hSw;go_simp);try (with_reducible rfl)));next=>rfl)
 try simp only [lay]
 refine wpAnyH_done (by kernel_rfl) ?_ _
 go_wp2_with fail
 go_ret
 exact ⟨rfl,v3,HH.out.next hT4.out HP3.out hl',hT4.out⟩
end
end Go.Proofs.YtcoimipgilkmbaaGreatDoor.bk
namespace Go.Proofs.YtcoimipgilkmbaaGreatDoor.bk
set_option linter.unusedVariables false
set_option linter.unusedSimpArgs false
set_option maxRecDepth 1000000
set_option maxHeartbeats 16000000
open Go Go.ChangeShapes Go.WideShapes Go.ChangeAt Go.RowKit
open Go.Proofs.YtcoimipgilkmbaaGreatDoor.tt (Cfg Tab CfgAt cfg_at U zd row tyne add_lit lt_of range_grown grown_setCells grown_setRow grown_new grown_drewN below_of grown_alloc grown_refl grown_trans grown_drew Sl Pool Turn Next flat)
def Nd (ns:List Bk):Prop:=(ns.map (·.b)).Nodup
theorem nd_nil:Nd []:=List.nodup_nil
theorem look_some_of_mem {ns:List Bk} {x:Bk} (h:Nd ns) (hx:x ∈ ns):look ns x.b=some x:=by
 induction ns with
 | nil=>cases hx
 | cons y r ih=>
  unfold Nd at h
  rw [List.map_cons,List.nodup_cons] at h
  unfold look at ih ⊢
  rw [List.find?_cons]
  rcases List.mem_cons.1 hx with rfl | hx
  ·simp
  ·have:(y.b == x.b)=false:=by
    simp only [beq_eq_false_iff_ne,ne_eq]
    intro e
    exact h.1 (e ▸ List.mem_map_of_mem hx)
   rw [this]
   exact ih h.2 hx
theorem look_none_iff {ns:List Bk} {b:Int}:look ns b=none ↔ ∀ x ∈ ns,x.b ≠ b:=by
 unfold look
 rw [List.find?_eq_none]
 simp
theorem mem_rem {ns:List Bk} {b:Int} {x:Bk} (h:x ∈ rem ns b):x ∈ ns:=List.mem_of_mem_eraseP h
theorem nd_rem {ns:List Bk} (b:Int) (h:Nd ns):Nd (rem ns b):=by
 unfold Nd rem at *
 exact List.Nodup.sublist ((List.eraseP_sublist).map _) h
theorem rem_gone {ns:List Bk} {b:Int} (h:Nd ns):∀ x ∈ rem ns b,x.b ≠ b:=by
 induction ns with
 | nil=>intro x hx;cases hx
 | cons y r ih=>
  unfold Nd at h
  rw [List.map_cons,List.nodup_cons] at h
  intro x hx
  unfold rem at hx ih
  by_cases hy:y.b=b
  ·rw [List.eraseP_cons_of_pos (by simp [hy])] at hx
   intro e
   exact h.1 (hy ▸ e ▸ List.mem_map_of_mem hx)
  ·rw [List.eraseP_cons_of_neg (by simp [hy])] at hx
   rcases List.mem_cons.1 hx with rfl | hx
   ·exact hy
   ·exact ih h.2 x hx
theorem look_rem {ns:List Bk} (b c:Int) (h:Nd ns):look (rem ns b) c=if c=b then none else look ns c:=by
 by_cases hc:c=b
 ·rw [if_pos hc,look_none_iff,hc];exact rem_gone h
 ·rw [if_neg hc]
  cases hl:look ns c with
  | none=>
   rw [look_none_iff] at hl ⊢
   exact fun x hx=>hl x (mem_rem hx)
  | some x=>
   have hb:=look_b hl
   have hm:=look_mem hl
   have hr:x ∈ rem ns b:=by
    unfold rem
    exact (List.mem_eraseP_of_neg (by simp;rw [hb];exact hc)).2 hm
   have:=look_some_of_mem (nd_rem b h) hr
   rwa [hb] at this
theorem look_app (ns:List Bk) (x:Bk) (c:Int):look (ns ++ [x]) c=(look ns c).or (if x.b=c then some x else none):=by
 unfold look
 rw [List.find?_append]
 congr 1
 by_cases h:x.b=c <;> simp [h]
theorem nd_app {ns:List Bk} {x:Bk} (h:Nd ns) (hx:look ns x.b=none):Nd (ns ++ [x]):=by
 rw [look_none_iff] at hx
 unfold Nd at *
 rw [List.map_append,List.nodup_append]
 refine ⟨h,by simp,?_⟩
 intro a ha b hb e
 simp at hb
 obtain ⟨y,hy,rfl⟩:=List.mem_map.1 ha
 exact hx y hy (e.trans hb)
theorem dead_b (x:Bk):(dead x).b=x.b:=rfl
theorem look_kills {ns:List Bk} (b c:Int) (h:Nd ns):look (kills ns b) c=if c=b then (look ns b).map dead else look ns c:=by
 unfold kills
 cases hl:look ns b with
 | none=>
  by_cases hc:c=b
  ·rw [if_pos hc,hc];simpa using hl
  ·rw [if_neg hc]
 | some x=>
  have hb:=look_b hl
  simp only
  rw [look_app,look_rem b c h,dead_b]
  by_cases hc:c=b
  ·subst hc;simp [hb]
  ·rw [if_neg hc,if_neg hc,if_neg (fun e=>hc (by rw [← e,hb]))];simp
theorem nd_kills {ns:List Bk} (b:Int) (h:Nd ns):Nd (kills ns b):=by
 unfold kills
 cases hl:look ns b with
 | none=>exact h
 | some x=>
  refine nd_app (nd_rem b h) ?_
  rw [dead_b,look_rem b _ h,if_pos (look_b hl)]
theorem kills_len (ns:List Bk) (b:Int):(kills ns b).length=ns.length:=by
 unfold kills
 cases hl:look ns b with
 | none=>rfl
 | some x=>have:=rem_len hl;simp;omega
def putE (n:Int) (m:Nat) (ns:List Bk) (b:Int):Int:=if b < 0 ∨ n ≤ b then 2 else if (look ns b).isSome=true then 8 else if ns.length=m then 7 else 0
def puts (n:Int) (m:Nat) (ns:List Bk) (b:Int) (d:List Int) (hd:d.length=16):List Bk:=if putE n m ns b=0 then ns ++ [fresh b d hd] else ns
theorem putE_zero {n:Int} {m:Nat} {ns:List Bk} {b:Int}:putE n m ns b=0 ↔ (0 ≤ b∧b < n)∧look ns b=none∧ns.length ≠ m:=by
 unfold putE
 by_cases h1:b < 0 ∨ n ≤ b
 ·rw [if_pos h1];constructor
  ·intro h;cases h
  ·rintro ⟨h,_⟩;omega
 ·rw [if_neg h1]
  by_cases h2:(look ns b).isSome=true
  ·rw [if_pos h2];constructor
   ·intro h;cases h
   ·rintro ⟨_,h,_⟩;rw [h] at h2;cases h2
  ·rw [if_neg h2]
   by_cases h3:ns.length=m
   ·rw [if_pos h3];constructor
    ·intro h;cases h
    ·rintro ⟨_,_,h⟩;exact absurd h3 h
   ·rw [if_neg h3]
    exact ⟨fun _=>⟨by omega,by simpa using h2,h3⟩,fun _=>rfl⟩
theorem look_puts (n:Int) (m:Nat) (ns:List Bk) (b c:Int) (d:List Int) (hd:d.length=16):look (puts n m ns b d hd) c=if putE n m ns b=0∧c=b then some (fresh b d hd) else look ns c:=by
 unfold puts
 by_cases h:putE n m ns b=0
 ·rw [if_pos h,look_app]
  obtain ⟨_,h2,_⟩:=putE_zero.1 h
  by_cases hc:c=b
  ·subst hc;simp [h,h2,fresh]
  ·simp [hc,fresh,show ¬ b=c from fun e=>hc e.symm]
 ·rw [if_neg h,if_neg (fun e=>h e.1)]
theorem nd_puts (n:Int) (m:Nat) {ns:List Bk} (b:Int) (d:List Int) (hd:d.length=16) (h:Nd ns):Nd (puts n m ns b d hd):=by
 unfold puts
 by_cases h0:putE n m ns b=0
 ·rw [if_pos h0];exact nd_app h (putE_zero.1 h0).2.1
 ·rw [if_neg h0];exact h
section
variable (t p:Nat) (v:Value) (n:Int) (m:Nat) (ns:List Bk) (w:World) (H:BkAt w t p v n m ns)
include H
theorem put_any (b:Int) (d:List Int) (hd:d.length=16):Calls Tryz.prog 129 #[.pointer (some ⟨t,0,none⟩),.int .i64 b,.agg (row d)] w fun e w'=>e = .returned (.int .i64 (putE n m ns b))∧∃ v',BkAt w' t p v' n m (puts n m ns b d hd)∧Turn w w' p v v':=by
 unfold puts
 by_cases h1:b < 0 ∨ n ≤ b
 ·have he:putE n m ns b=2:=by unfold putE;rw [if_pos h1]
  rw [he,if_neg (by decide)]
  refine (put_bad t p v n m ns w H b d hd h1).mono ?_
  rintro e w' ⟨rfl,hg⟩
  exact ⟨rfl,v,H.grown hg,Turn.of_grown p v hg⟩
 ·rcases ff_look ns b with ⟨h2,hff⟩ | ⟨k,x,h2,hff,_,_⟩
  ·by_cases h3:ns.length=m
   ·have he:putE n m ns b=7:=by unfold putE;rw [if_neg h1,h2,if_neg (by decide),if_pos h3]
    rw [he,if_neg (by decide)]
    refine put_gen t p v n m ns w H b d hd (by omega) (by omega) hff 7 ns H.len fun w' hg=>(pput_full p v m ns _ w' (H.grown hg).pool h3 H.room).mono ?_
    rintro e w'' ⟨rfl,hg2⟩
    exact ⟨rfl,v,(H.grown (grown_trans hg hg2)).pool,Turn.of_grown p v hg2⟩
   ·have he:putE n m ns b=0:=by unfold putE;rw [if_neg h1,h2,if_neg (by decide),if_neg h3]
    rw [he,if_pos rfl]
    exact put_gen t p v n m ns w H b d hd (by omega) (by omega) hff 0 _ (by have:=H.len;simp;omega) fun w' hg=>pput_ok p v m ns _ w' (H.grown hg).pool (by have:=H.len;omega) H.room
  ·have he:putE n m ns b=8:=by unfold putE;rw [if_neg h1,h2];simp
   rw [he,if_neg (by decide)]
   refine (put_there t p v n m ns w H b d hd (by omega) (by omega) k hff).mono ?_
   rintro e w' ⟨rfl,hg⟩
   exact ⟨rfl,v,H.grown hg,Turn.of_grown p v hg⟩
end
structure Own (w w':World) (t p:Nat) (v:Value) (n:Int) (m:Nat) (ns:List Bk):Prop where
 bk:BkAt w' t p v n m ns
 old:w.grownBy w' none
 hp:w.heap.size ≤ p
 hv:∀ k,v.ownBlock=some k→w.heap.size ≤ k
section
variable {w w1 w2:World} {t p:Nat} {v v':Value} {n:Int} {m:Nat} {ns ns':List Bk}
theorem Own.grown (h:Own w w1 t p v n m ns) (hg:w1.grownBy w2 none):Own w w2 t p v n m ns:=⟨h.bk.grown hg,grown_trans h.old hg,h.hp,h.hv⟩
theorem old_turn (h:w.grownBy w1 none) (hp:w.heap.size ≤ p) (hv:∀ k,v.ownBlock=some k→w.heap.size ≤ k) (hT:Turn w1 w2 p v v'):w.grownBy w2 none:=
 ⟨hT.os.trans h.os,hT.tape.trans h.tape,hT.output.trans h.output,Nat.le_trans h.size hT.size,fun k hk _=>(hT.block k (Nat.lt_of_lt_of_le hk h.size) (by omega) (fun e=>by have:=hv k e.symm;omega)).trans (h.block k hk (by simp))⟩
theorem Own.turn (h:Own w w1 t p v n m ns) (hT:Turn w1 w2 p v v') (hB:BkAt w2 t p v' n m ns'):Own w w2 t p v' n m ns':=
 ⟨hB,old_turn h.old h.hp h.hv hT,h.hp,hT.next.ge h.old.size h.hv⟩
theorem Own.from {w0:World} (h:Own w w1 t p v n m ns) (hg:w0.grownBy w none):Own w0 w1 t p v n m ns:=⟨h.bk,grown_trans hg h.old,Nat.le_trans hg.size h.hp,fun k e=>Nat.le_trans hg.size (h.hv k e)⟩
theorem own_new (c:Cfg) (m:Nat) (w:World) (hT:Tab w) (hm:c.may) (hba:c.ba=(m:Int)) (h1:1 ≤ m) (h2:m ≤ 65536):Calls Tryz.prog 44 #[.agg c.cells] w fun e w'=>∃ t p,e = .returned (.tuple #[.pointer (some ⟨t,0,none⟩),.int .i64 0])∧Own w w' t p (.slice none 0 0) c.data m []:=by
 refine (new_yes c m w hT hm hba h1 h2).mono ?_
 rintro e w' ⟨t,p,rfl,hB,_,hp,hg⟩
 exact ⟨t,p,rfl,hB,hg,hp,fun k hk=>by simp [Value.ownBlock] at hk⟩
end
section
variable {w:World} {ops:Array Oper} {rest:List Oper} {a:Act} {Q:Exit→Act→World→Prop} {dst:Option Tmp} {ty:TypeId} {pos:String} {after:Array Edge}
theorem infoRa (d:List Int) (hd:d.length=16):(Tryz.prog.info? 35).map (·.size)=some (row d).size:=by
 rw [infoR d hd];simp [row]
theorem row_one (d:List Int):(row d).all (·.oneCell')=true:=all_oneCell_toArray fun v hv=>by
 obtain ⟨x,_,rfl⟩:=List.mem_map.1 hv;rfl
theorem range_row {w:World} {g:Nat} {d:List Int} {t:TypeId} (h:w.heap[g]?=some (.cells (row d) t (0,0))):w.rangeAt g 0 (d.map U):=fun j v hv=>by
 rw [Nat.zero_add,cell_of_row _ _ j _ _ _ h]
 simpa [row] using hv
theorem store_row (d:List Int) (hd:d.length=16) (A c:Array Value) (hA:row d=A) (x y:Tmp) (g:Nat) (hx:a.eval (.tmp x) = .pointer (some ⟨g,0,none⟩)) (hy:a.eval (.tmp y) = .agg A) (hg:w.heap[g]?=some (.cells c 35 (0,0))) (hc:c.size=16)
  (h:wpList Tryz.prog ops Q rest (a.put dst undef) (w.setRow g (row d))):wpList Tryz.prog ops Q (⟨dst,.store 35 (.tmp x) (.tmp y),ty,pos,after,none⟩ :: rest) a w:=by
 subst hA
 exact wpList_store_row rfl 35 (.tmp x) (.tmp y) rfl g (row d) hx hy 35 _ hg (infoRa d hd) (by rw [hc];simp [row,hd]) (row_one d) h
end
theorem take_nil (b:Int) (w:World):Calls Tryz.prog 168 #[.pointer none,.int .i64 b] w fun e w'=>e = .returned (.tuple #[.agg (ba zb),.bool false])∧w.grownBy w' none:=by
 obtain ⟨w2,hw,hg2,hb2,hs2⟩:=onez w
 have hz:ba zb=_:=zb_ba
 have hz2:=hz
 rw [hz] at hw
 have HB2:=qh hb2
 have HG2:=qh hg2
 have HZ:=qh hz2
 clear hz hz2 hg2 hb2 hs2
 go_enter Tryz.func168,Tryz.ntmps168
 go_wp2_with ((with_reducible refine store_any zb _ _ _ w.heap.size ?_ ?_ HB2.out ?_ ?_);(rfl);(exact congrArg Value.agg HZ.out.symm);(rfl))
 exact ret_bte rfl _ zb _ w.heap.size _ _ (by rfl) (by rfl) (range_of (setRow_heap _ _ _ _ _ _ HB2.out)) ⟨rfl,grown_setRow HG2.out _ (Nat.le_refl _) _⟩
theorem drop_nil (b:Int) (w:World):Calls Tryz.prog 139 #[.pointer none,.int .i64 b] w fun e w'=>e = .returned (.bool false)∧w.grownBy w' none:=by
 have HT:=qh (take_nil b w)
 go_enter Tryz.func139,Tryz.ntmps139
 go_wp2_with (first
  | (go_at_call 168;((with_reducible refine HT.out.mono ?_);rintro e w1 ⟨rfl,hg⟩;have HG1:=qh hg;clear hg))
  | ((with_reducible refine store_new zb _ _ _ ?_ ?_ ?_ ?_);(rfl);(rfl);(rfl)))
 go_ret
 exact ⟨rfl,grown_alloc HG1.out _⟩
theorem copy_nil (w:World):Calls Tryz.prog 61 #[.pointer none] w fun e w'=>e = .returned (.pointer none)∧w=w':=by
 go_enter Tryz.func61,Tryz.ntmps61
 go_wp2
 go_ret
 exact ⟨rfl,rfl⟩
theorem put_nil (b:Int) (d:List Int) (w:World):Calls Tryz.prog 129 #[.pointer none,.int .i64 b,.agg (row d)] w fun e w'=>e = .returned (.int .i64 1)∧w.grownBy w' none:=by
 go_enter Tryz.func129,Tryz.ntmps129
 go_wp2
 go_ret
 exact ⟨rfl,grown_alloc (grown_refl _ _) _⟩
theorem find_nil (b:Int) (w:World):Calls Tryz.prog 59 #[.pointer none,.int .i64 b] w fun e w'=>e = .returned (.tuple #[.agg (row zd),.bool false,.bool false])∧w.grownBy w' none:=by
 obtain ⟨w2,hw,hg2,hb2,hs2⟩:=onerow w
 have hz:row zd=_:=zrow
 rw [hz] at hw
 have HB2:=qh hb2
 have HG2:=qh hg2
 clear hz hg2 hb2 hs2
 go_enter Tryz.func59,Tryz.ntmps59
 go_wp2_with ((with_reducible refine store_row zd rfl _ _ zrow _ _ w.heap.size ?_ ?_ HB2.out ?_ ?_);(rfl);(rfl);(rfl))
 have hr:(w2.setRow w.heap.size (row zd)).rangeAt w.heap.size 0 (zd.map U):=range_row (setRow_heap _ _ _ _ _ _ HB2.out)
 exact ret_row3 rfl _ zd rfl _ _ w.heap.size _ _ (by rfl) (by rfl) (by rfl) hr ⟨rfl,grown_setRow HG2.out _ (Nat.le_refl _) _⟩
def Rg (n:Int) (ns:List Bk):Prop:=∀ x ∈ ns,0 ≤ x.b∧x.b < n
theorem rg_rem {n:Int} {ns:List Bk} (b:Int) (h:Rg n ns):Rg n (rem ns b):=fun x hx=>h x (mem_rem hx)
theorem rg_kills {n:Int} {ns:List Bk} (b:Int) (h:Rg n ns):Rg n (kills ns b):=by
 unfold kills
 cases hl:look ns b with
 | none=>exact h
 | some x=>
  intro y hy
  rcases List.mem_append.1 hy with hy | hy
  ·exact rg_rem b h y hy
  ·simp at hy;subst hy;exact h x (look_mem hl)
theorem rg_puts {n:Int} {m:Nat} {ns:List Bk} (b:Int) (d:List Int) (hd:d.length=16) (h:Rg n ns):Rg n (puts n m ns b d hd):=by
 unfold puts
 by_cases h0:putE n m ns b=0
 ·rw [if_pos h0]
  intro y hy
  rcases List.mem_append.1 hy with hy | hy
  ·exact h y hy
  ·simp at hy;subst hy;exact (putE_zero.1 h0).1
 ·rw [if_neg h0];exact h
end Go.Proofs.YtcoimipgilkmbaaGreatDoor.bk
