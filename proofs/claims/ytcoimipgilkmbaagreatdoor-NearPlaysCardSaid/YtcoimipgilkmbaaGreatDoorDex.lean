/-
 A transaction (a deal) and what it saves as cells; loads and stores of both; '==' of what is saved; a scope that is left by a goto: definitions and laws. No condition but the bounds that each theorem names.
 The landed deal: what New, Depth, Failing, Stamp, Flag, Copy, goes, close, open answer and make of it: definitions and contracts. No condition but the bounds that each theorem names.
 The landed deal: what New, Copy, open, Begin, End, Fail answer and make of it: contracts. No condition but the bounds that each theorem names.
 The landed deal: what Begin, End, Fail answer and make of it: contracts. No condition but the bounds that each theorem names.
 The landed deal: what End, Fail, Asked, Refused answer and make of it: contracts. No condition but the bounds that each theorem names.
 The landed deal: what Asked and Over answer and make of it; what no deal answers: contracts. No condition but the bounds that each theorem names.
 The landed deal: what Over answers and makes of it; what no deal answers: contracts. No condition but the bounds that each theorem names.
 What holds of each deal; the document's own deal: what its Stamp, Begin, End, Fail, Over, Asked, Refused answer and make of it: definitions and contracts. No condition but the bounds that each theorem names.
-/
import Derived.Test.YtcoimipgilkmbaaGreatDoorTl
import Derived.Test.YtcoimipgilkmbaaGreatDoorSl
import Derived.Test.YtcoimipgilkmbaaGreatDoorOdA
import Derived.Deep.RegionHeld3
import Derived.Laws.BitsLemmas
import Derived.Laws.Bits64
namespace Go.Proofs.YtcoimipgilkmbaaGreatDoor.de
set_option linter.unusedVariables false
set_option linter.unusedSimpArgs false
set_option maxRecDepth 1000000
set_option maxHeartbeats 16000000
open Go Go.ChangeShapes Go.WideShapes Go.ChangeAt Go.RowKit
open Go.Proofs.YtcoimipgilkmbaaGreatDoor.tt (U zd row tyne add_lit lt_of range_grown setCells_rest heap_setCells heap_setCells_other grown_setCells grown_setRow grown_new grown_drewN below_of grown_alloc grown_refl grown_trans grown_drew eqIk eqBk all_range_eqU)
open Go.Proofs.YtcoimipgilkmbaaGreatDoor.oo (ref flag' gives older)
structure Sv where
 r:List Int
 h:Int
 hr:r.length=16
deriving DecidableEq
def zs:Sv:=⟨zd,0,rfl⟩
theorem Sv.ext {x y:Sv} (h1:x.r=y.r) (h2:x.h=y.h):x=y:=by
 obtain ⟨_,_,_⟩:=x;obtain ⟨_,_,_⟩:=y;simp at *;simp_all
theorem Sv.lit (s:Sv):∃ r0 r1 r2 r3 r4 r5 r6 r7 r8 r9 r10 r11 r12 r13 r14 r15 h,s=⟨[r0,r1,r2,r3,r4,r5,r6,r7,r8,r9,r10,r11,r12,r13,r14,r15],h,rfl⟩:=by
 obtain ⟨r,h,hr⟩:=s
 match r,hr with
 | [r0,r1,r2,r3,r4,r5,r6,r7,r8,r9,r10,r11,r12,r13,r14,r15],_=>exact ⟨r0,r1,r2,r3,r4,r5,r6,r7,r8,r9,r10,r11,r12,r13,r14,r15,h,rfl⟩
def sl (s:Sv):List Value:=s.r.map U ++ [.int .i64 s.h]
def sa (s:Sv):Array Value:=(sl s).toArray
theorem sl_len (s:Sv):(sl s).length=17:=by simp [sl,s.hr]
theorem sa_size (s:Sv):(sa s).size=17:=by simp [sa,sl_len]
theorem sl_one (s:Sv):∀ v ∈ sl s,v.oneCell'=true:=by
 intro v hv
 simp [sl,U] at hv
 rcases hv with ⟨x,_,rfl⟩ | rfl <;> rfl
theorem sa_one (s:Sv):(sa s).all (·.oneCell')=true:=all_oneCell_toArray (sl_one s)
theorem infoS:(Tryz.prog.info? 76).map (·.size)=some 17:=by kernel_rfl
theorem infoSl (s:Sv):(Tryz.prog.info? 76).map (·.size)=some (sl s).length:=by rw [sl_len];exact infoS
theorem infoSa (s:Sv):(Tryz.prog.info? 76).map (·.size)=some (sa s).size:=by rw [sa_size];exact infoS
theorem zs_sa:sa zs=#[.int .u32 0,.int .u32 0,.int .u32 0,.int .u32 0,.int .u32 0,.int .u32 0,.int .u32 0,.int .u32 0,.int .u32 0,.int .u32 0,.int .u32 0,.int .u32 0,.int .u32 0,.int .u32 0,.int .u32 0,.int .u32 0,.int .i64 0]:=rfl
structure Dl where
 ne:Int
 de:Int
 s:Sv
 st:Int
 fl:Bool
 fa:Bool
 ca:Int
def dl (d:Dl):List Value:= .int .i64 d.ne :: .int .i64 d.de :: (sl d.s ++ [.int .u64 d.st,.bool d.fl,.bool d.fa,.int .u32 d.ca])
def da (d:Dl):Array Value:=(dl d).toArray
theorem dl_len (d:Dl):(dl d).length=23:=by simp [dl,sl_len]
theorem da_size (d:Dl):(da d).size=23:=by simp [da,dl_len]
theorem dl_one (d:Dl):∀ v ∈ dl d,v.oneCell'=true:=by
 intro v hv
 simp only [dl,List.mem_cons,List.mem_append,List.not_mem_nil,or_false] at hv
 rcases hv with rfl | rfl | h | rfl | rfl | rfl | rfl <;> first | rfl | exact sl_one d.s v h
theorem da_one (d:Dl):(da d).all (·.oneCell')=true:=all_oneCell_toArray (dl_one d)
theorem da_get (d:Dl):(da d)[0]?=some (.int .i64 d.ne)∧(da d)[1]?=some (.int .i64 d.de)∧(da d)[19]?=some (.int .u64 d.st)∧(da d)[20]?=some (.bool d.fl)∧(da d)[21]?=some (.bool d.fa)∧(da d)[22]?=some (.int .u32 d.ca):=by
 obtain ⟨ne,de,s,st,fl,fa,ca⟩:=d
 obtain ⟨r0,r1,r2,r3,r4,r5,r6,r7,r8,r9,r10,r11,r12,r13,r14,r15,h,rfl⟩:=s.lit
 exact ⟨rfl,rfl,rfl,rfl,rfl,rfl⟩
theorem da_s (d:Dl) (k:Nat) (v:Value) (h:(sl d.s)[k]?=some v):(da d)[2 + k]?=some v:=by
 have hk:k < 17:=by have:=(List.getElem?_eq_some_iff.1 h).1;rwa [sl_len] at this
 simp only [da,dl,List.getElem?_toArray]
 rw [Nat.add_comm,List.getElem?_cons_succ,List.getElem?_cons_succ,List.getElem?_append_left (by rw [sl_len];exact hk)]
 exact h
theorem da_de (d:Dl) (x:Int):(da d).setIfInBounds 1 (.int .i64 x)=da { d with de:=x }:=by
 obtain ⟨ne,de,s,st,fl,fa,ca⟩:=d
 obtain ⟨r0,r1,r2,r3,r4,r5,r6,r7,r8,r9,r10,r11,r12,r13,r14,r15,h,rfl⟩:=s.lit
 rfl
theorem da_st (d:Dl) (x:Int):(da d).setIfInBounds 19 (.int .u64 x)=da { d with st:=x }:=by
 obtain ⟨ne,de,s,st,fl,fa,ca⟩:=d
 obtain ⟨r0,r1,r2,r3,r4,r5,r6,r7,r8,r9,r10,r11,r12,r13,r14,r15,h,rfl⟩:=s.lit
 rfl
theorem da_fl (d:Dl) (x:Bool):(da d).setIfInBounds 20 (.bool x)=da { d with fl:=x }:=by
 obtain ⟨ne,de,s,st,fl,fa,ca⟩:=d
 obtain ⟨r0,r1,r2,r3,r4,r5,r6,r7,r8,r9,r10,r11,r12,r13,r14,r15,h,rfl⟩:=s.lit
 rfl
theorem da_fa (d:Dl) (x:Bool):(da d).setIfInBounds 21 (.bool x)=da { d with fa:=x }:=by
 obtain ⟨ne,de,s,st,fl,fa,ca⟩:=d
 obtain ⟨r0,r1,r2,r3,r4,r5,r6,r7,r8,r9,r10,r11,r12,r13,r14,r15,h,rfl⟩:=s.lit
 rfl
theorem da_ca (d:Dl) (x:Int):(da d).setIfInBounds 22 (.int .u32 x)=da { d with ca:=x }:=by
 obtain ⟨ne,de,s,st,fl,fa,ca⟩:=d
 obtain ⟨r0,r1,r2,r3,r4,r5,r6,r7,r8,r9,r10,r11,r12,r13,r14,r15,h,rfl⟩:=s.lit
 rfl
theorem grown_setCell (w:World) (b o:Nat) (v:Value):w.grownBy (w.setCell ⟨b,o,none⟩ v) (some b):=
 ⟨rfl,rfl,rfl,by simp [World.setCell],fun k _ hn=>Below.heap_setCell _ _ _ _ (fun e=>hn (by rw [e]))⟩
theorem set_heap {w:World} {b:Nat} {T:TypeId} {cs:Array Value} (h:w.heap[b]?=some (.cells cs T (0,0))) (i:Nat) (u:Value):(w.setCell ⟨b,i,none⟩ u).heap[b]?=some (.cells (cs.setIfInBounds i u) T (0,0)):=by
 obtain ⟨hlt,hk⟩:=Array.getElem?_eq_some_iff.1 h
 show (w.heap.modify b _)[b]?=_
 rw [Array.getElem?_eq_getElem (by rw [Array.size_modify];exact hlt),Array.getElem_modify_self,hk]
 simp
theorem grown_row {w:World} (g:Nat) (c:Array Value):w.grownBy (w.setRow g c) (some g):=
 ⟨rfl,rfl,rfl,by simp,fun k _ hn=>setRow_other _ _ _ _ (fun e=>hn (by rw [e]))⟩
theorem grown_to {w w1:World} {own:Option Nat} (h:w.grownBy w1 none):w.grownBy w1 own:=⟨h.os,h.tape,h.output,h.size,fun k hk _=>h.block k hk (by simp)⟩
structure DAt (t:TypeId) (w:World) (g:Nat) (d:Dl):Prop where
 blk:w.heap[g]?=some (.cells (da d) t (0,0))
section
variable {t:TypeId} {w w':World} {g:Nat} {d:Dl}
theorem DAt.lt (h:DAt t w g d):g < w.heap.size:=lt_of h.blk
theorem DAt.same (h:DAt t w g d) (hb:w'.heap[g]?=w.heap[g]?):DAt t w' g d:=⟨hb.trans h.blk⟩
theorem DAt.grown (h:DAt t w g d) {own:Option Nat} (hg:w.grownBy w' own) (hn:some g ≠ own):DAt t w' g d:=h.same (hg.block g h.lt hn)
theorem DAt.cells (h:DAt t w g d):w.cell? ⟨g,0,none⟩=some (.int .i64 d.ne)∧w.cell? ⟨g,1,none⟩=some (.int .i64 d.de)∧w.cell? ⟨g,19,none⟩=some (.int .u64 d.st)∧w.cell? ⟨g,20,none⟩=some (.bool d.fl)∧w.cell? ⟨g,21,none⟩=some (.bool d.fa)∧w.cell? ⟨g,22,none⟩=some (.int .u32 d.ca):=by
 obtain ⟨h0,h1,h2,h3,h4,h5⟩:=da_get d
 exact ⟨(cell_of_row _ _ _ _ _ _ h.blk).trans h0,(cell_of_row _ _ _ _ _ _ h.blk).trans h1,(cell_of_row _ _ _ _ _ _ h.blk).trans h2,(cell_of_row _ _ _ _ _ _ h.blk).trans h3,(cell_of_row _ _ _ _ _ _ h.blk).trans h4,(cell_of_row _ _ _ _ _ _ h.blk).trans h5⟩
theorem DAt.free (h:DAt t w g d) (j:Nat):w.frozen? ⟨g,j,none⟩=false:=frozen_of_row _ _ _ _ _ h.blk
theorem DAt.all (h:DAt t w g d):w.rangeAt g 0 (dl d):=fun j v hv=>by
 rw [Nat.zero_add,cell_of_row _ _ j _ _ _ h.blk]
 simpa [da] using hv
theorem DAt.save (h:DAt t w g d):w.rangeAt g 2 (sl d.s):=fun j v hv=>by
 rw [cell_of_row _ _ _ _ _ _ h.blk]
 exact da_s d j v hv
theorem DAt.there (h:DAt t w g d):w.there g 2 17:=fun i hi=>by
 refine ⟨?_,h.free _⟩
 rw [cell_of_row _ _ _ _ _ _ h.blk,Array.getElem?_eq_getElem (by rw [da_size];omega)];rfl
theorem DAt.put_de (h:DAt t w g d) (x:Int):DAt t (w.setCell ⟨g,1,none⟩ (.int .i64 x)) g { d with de:=x }:=⟨by rw [set_heap h.blk,da_de]⟩
theorem DAt.put_st (h:DAt t w g d) (x:Int):DAt t (w.setCell ⟨g,19,none⟩ (.int .u64 x)) g { d with st:=x }:=⟨by rw [set_heap h.blk,da_st]⟩
theorem DAt.put_fl (h:DAt t w g d) (x:Bool):DAt t (w.setCell ⟨g,20,none⟩ (.bool x)) g { d with fl:=x }:=⟨by rw [set_heap h.blk,da_fl]⟩
theorem DAt.put_fa (h:DAt t w g d) (x:Bool):DAt t (w.setCell ⟨g,21,none⟩ (.bool x)) g { d with fa:=x }:=⟨by rw [set_heap h.blk,da_fa]⟩
theorem DAt.put_ca (h:DAt t w g d) (x:Int):DAt t (w.setCell ⟨g,22,none⟩ (.int .u32 x)) g { d with ca:=x }:=⟨by rw [set_heap h.blk,da_ca]⟩
theorem DAt.put_s (h:DAt t w g d) (s:Sv):DAt t (w.setCells g 2 (sl s)) g { d with s:=s }:=by
 obtain ⟨cur,h1,h2,h3,h4⟩:=heap_setCells g t (sl s) 2 w _ h.blk (by rw [sl_len,da_size];omega)
 refine ⟨?_⟩
 rw [h1]
 have:cur=da { d with s:=s }:=by
  rw [da_size] at h2
  refine Array.ext_getElem? fun i=>?_
  by_cases hi:i < 2 ∨ 19 ≤ i
  ·rw [h3 i (by rw [sl_len];omega)]
   obtain ⟨a0,a1,a2,a3,a4,a5⟩:=da_get d
   obtain ⟨b0,b1,b2,b3,b4,b5⟩:=da_get { d with s:=s }
   by_cases hj:23 ≤ i
   ·rw [Array.getElem?_eq_none (by rw [da_size];exact hj),Array.getElem?_eq_none (by rw [da_size];exact hj)]
   ·obtain rfl | rfl | rfl | rfl | rfl | rfl:i=0 ∨ i=1 ∨ i=19 ∨ i=20 ∨ i=21 ∨ i=22:=by omega
    ·rw [a0,b0]
    ·rw [a1,b1]
    ·rw [a2,b2]
    ·rw [a3,b3]
    ·rw [a4,b4]
    ·rw [a5,b5]
  ·obtain ⟨j,rfl⟩:∃ j,i=2 + j:=⟨i - 2,by omega⟩
   have hj:j < (sl s).length:=by rw [sl_len];omega
   have hv:(sl s)[j]?=some (sl s)[j]:=List.getElem?_eq_getElem hj
   rw [h4 j _ hv,da_s { d with s:=s } j _ hv]
 rw [this]
end
section
variable {w:World} {ops:Array Oper} {rest:List Oper} {a:Act} {Q:Exit→Act→World→Prop} {dst:Option Tmp} {ty:TypeId} {pos:String} {after:Array Edge}
theorem load_sv (s:Sv) (x:Tmp) (g o:Nat) (hx:a.eval (.tmp x) = .pointer (some ⟨g,o,none⟩)) (hg:w.rangeAt g o (sl s))
  (h:wpList Tryz.prog ops Q rest (a.put dst (.agg (sa s))) w):wpList Tryz.prog ops Q (⟨dst,.load 76 (.tmp x),ty,pos,after,none⟩ :: rest) a w:=
 wpList_load_mid rfl 76 (.tmp x) rfl g o hx (sl s) _ hg Tryz.underlying76 rfl (infoSl s) h
theorem store_mid (s:Sv) (x y:Tmp) (g o:Nat) (hx:a.eval (.tmp x) = .pointer (some ⟨g,o,none⟩)) (hy:a.eval (.tmp y) = .agg (sa s)) (hg:w.there g o 17)
  (h:wpList Tryz.prog ops Q rest (a.put dst undef) (w.setCells g o (sl s))):wpList Tryz.prog ops Q (⟨dst,.store 76 (.tmp x) (.tmp y),ty,pos,after,none⟩ :: rest) a w:=
 wpList_store_mid rfl 76 (.tmp x) (.tmp y) rfl g o (sa s) hx hy (by rw [sa_size];exact hg) (infoSa s) (sa_one s) h
theorem store_svN (s:Sv) (c:Array Value) (x y:Tmp) (hx:a.eval (.tmp x) = .pointer (some ⟨w.heap.size,0,none⟩)) (hy:a.eval (.tmp y) = .agg (sa s)) (hc:c.size=17)
  (h:wpList Tryz.prog ops Q rest (a.put dst undef) (w.alloc (.cells (sa s) 76))):wpList Tryz.prog ops Q (⟨dst,.store 76 (.tmp x) (.tmp y),ty,pos,after,none⟩ :: rest) a (w.alloc (.cells c 76)):=by
 refine wpList_store_row rfl 76 (.tmp x) (.tmp y) rfl w.heap.size (sa s) hx hy 76 _ (heap_alloc_new _ _) (infoSa s) (by rw [sa_size,hc]) (sa_one s) ?_
 rw [World.setRow_alloc_new];exact h
end
theorem sv_at {w:World} {g:Nat} {s:Sv} {t:TypeId} (h:w.heap[g]?=some (.cells (sa s) t (0,0))):w.rangeAt g 0 (sl s):=fun j v hv=>by
 rw [Nat.zero_add,cell_of_row _ _ j _ _ _ h]
 simpa [sa] using hv
theorem sv_new (w:World) (s:Sv) (t:TypeId):(w.alloc (.cells (sa s) t)).rangeAt w.heap.size 0 (sl s):=sv_at (heap_alloc_new _ _)
theorem named:∃ (t:TypeId) (m:Nat),Hid (Op.load 76=Op.load t∧Op.store 76=Op.store t)∧(∀ w,(isAgg t).run Tryz.prog w = .ok true w)∧(∀ w,(sizeOf t).run Tryz.prog w = .ok m w) ∧
  (∀ (g o:Nat) (s:Sv) (w:World),w.rangeAt g o (sl s)→(loadCellsFrom ⟨g,o,none⟩ 0 m #[]).run Tryz.prog w = .ok (sa s) w)∧(∀ s:Sv,(sa s).size=m) ∧
  (∀ (g o:Nat) (s:Sv) (w:World),w.there g o 17→(storeCells ⟨g,o,none⟩ (sa s).toList 0).run Tryz.prog w = .ok () (w.setCells g o (sl s))):=
 ⟨76,17,qh ⟨rfl,rfl⟩,Tryz.isAgg76,Tryz.sizeOf76,fun g o s w h=>by
  have:=run_loadCells_list (P:=Tryz.prog) w ⟨g,o,none⟩ (sl s) (fun j v hv=>by rw [add_lit];exact h j v hv)
  simpa [loadCells,sl_len,sa] using this,sa_size,fun g o s w h=>by
  have:=run_storeCells_cells (P:=Tryz.prog) g o (sl s) 0 w (fun j hj=>by simpa using (h j (by rw [sl_len] at hj;exact hj)).1) (fun j hj=>by simpa using (h j (by rw [sl_len] at hj;exact hj)).2) (sl_one s)
  simpa [sa] using this⟩
theorem ret_sv3 {fn:Func} {p q r:Tmp} (hres:fn.results=#[.cell p 76,.tmp q,.tmp r]) (w:World) (s:Sv) (u v:Value) (B:Nat) (tmps:Array Value) (Q:Ending→World→Prop) (h4:tmps.getD p undef = .pointer (some ⟨B,0,none⟩)) (h5:tmps.getD q undef=u) (h6:tmps.getD r undef=v)
  (hr:w.rangeAt B 0 (sl s)) (hQ:Q (.returned (.tuple #[.agg (sa s),u,v])) w):bodyPost Tryz.prog fn Q .ret { tmps:=tmps,defers:=[] } w:=by
 refine bodyPost_ret (v:= .tuple #[.agg (sa s),u,v]) ?_ rfl hQ
 have:=run_loadVar_mid (P:=Tryz.prog) w B 0 76 (sl s) _ hr Tryz.underlying76 rfl (infoSl s)
 have h4':tmps[p]?.getD undef = .pointer (some ⟨B,0,none⟩):=by simpa using h4
 have h5':tmps[q]?.getD undef=u:=by simpa using h5
 have h6':tmps[r]?.getD undef=v:=by simpa using h6
 have hsa:(sl s).toArray=sa s:=rfl
 rw [hsa] at this
 simp [results,hres,h4',h5',h6',asAddr,this]
theorem grown_new2 {w w3 w4:World} {own:Option Nat} {R:Nat} (h:w.grownBy w3 own) (hR:w.heap.size ≤ R) (k:w3.grownBy w4 (some R)):w.grownBy w4 own:=
 ⟨k.os.trans h.os,k.tape.trans h.tape,k.output.trans h.output,Nat.le_trans h.size k.size,fun i hi hn=>(k.block i (Nat.lt_of_lt_of_le hi h.size) (by simp;omega)).trans (h.block i hi hn)⟩
theorem there_new {w:World} {g:Nat} {c:Array Value} {t:TypeId} (h:w.heap[g]?=some (.cells c t (0,0))) (hc:c.size=17):w.there g 0 17:=fun i hi=>by
 refine ⟨?_,frozen_of_row _ _ _ _ _ h⟩
 rw [cell_of_row _ _ _ _ _ _ h,Nat.zero_add,Array.getElem?_eq_getElem (by omega)];rfl
theorem wp_mono {P:Program} {c:Code} {Q R:Exit→Act→World→Prop} {a:Act} {w:World} (h:c.wp P Q a w) (hi:∀ e a w,Q e a w→R e a w):c.wp P R a w:=by
 intro b k cs
 obtain ⟨e,a₁,w₁,hq,harr⟩:=h b k cs
 exact ⟨e,a₁,w₁,hi _ _ _ hq,harr⟩
theorem wp_scope_tail {P:Program} {a:Act} {w:World} {Q:Exit→Act→World→Prop} {c rest:Code} (l:Nat) (hf:findLabel c l=some rest)
  (first:c.wp P (Exit.jump l (fun a w=>rest.wp P (Exit.jump l (fun _ _=>False) Q) a w) Q) a w):(Code.scope c).wp P Q a w:=
 wp_scope_jumps l (fun a w=>rest.wp P (Exit.jump l (fun _ _=>False) Q) a w) (fun _ _=>0) hf first fun a w h=>wp_mono h fun e a w hq=>by
  cases e with
  | goto l'=>exact hq.2.elim
  | _=>exact hq
end Go.Proofs.YtcoimipgilkmbaaGreatDoor.de
namespace Go.Proofs.YtcoimipgilkmbaaGreatDoor.de
set_option linter.unusedVariables false
set_option linter.unusedSimpArgs false
set_option maxRecDepth 1000000
set_option maxHeartbeats 16000000
open Go Go.ChangeShapes Go.WideShapes Go.ChangeAt Go.RowKit
open Go.Proofs.YtcoimipgilkmbaaGreatDoor.tt (U zd row tyne add_lit lt_of range_grown setCells_rest heap_setCells heap_setCells_other grown_setCells grown_setRow grown_new grown_drewN below_of grown_alloc grown_refl grown_trans grown_drew)
open Go.Proofs.YtcoimipgilkmbaaGreatDoor.oo (ref flag' gives older ret_bool jump_ret)
abbrev LAt (w:World) (g:Nat) (d:Dl):Prop:=DAt 126 w g d
def gE (d:Dl):Int:=if d.de=0 ∨ d.fa=true then 8 else 0
def cl (d:Dl) (k:Int):Dl:=⟨d.ne,0,zs,k,false,false,0⟩
def sT (d:Dl):Int:=if d.de=0 then 0 else d.st
theorem ret_i {k:IntKind} {a b:Int} (h:a=b):Ending.returned (.int k a)=Ending.returned (.int k b):=by rw [h]
theorem info53 (d:Dl):(Tryz.prog.info? 126).map (·.size)=some (da d).size:=by rw [da_size];kernel_rfl
theorem info53l (d:Dl):(Tryz.prog.info? 126).map (·.size)=some (dl d).length:=by rw [dl_len];kernel_rfl
section
variable {w:World} {g:Nat} {d:Dl}
theorem depth_any (h:LAt w g d):Calls Tryz.prog 36 #[.pointer (some ⟨g,0,none⟩)] w fun e w'=>e = .returned (.int .i64 d.de)∧w=w':=by
 obtain ⟨c0,c1,c19,c20,c21,c22⟩:=h.cells
 clear h
 go_enter Tryz.func36,Tryz.ntmps36
 go_wp2
 go_ret
 exact ⟨rfl,rfl⟩
theorem flag_any (h:LAt w g d):Calls Tryz.prog 30 #[.pointer (some ⟨g,0,none⟩)] w fun e w'=>e = .returned (.bool d.fl)∧w=w':=by
 obtain ⟨c0,c1,c19,c20,c21,c22⟩:=h.cells
 clear h
 go_enter Tryz.func30,Tryz.ntmps30
 go_wp2
 go_ret
 exact ⟨rfl,rfl⟩
theorem stamp_any (h:LAt w g d):Calls Tryz.prog 28 #[.pointer (some ⟨g,0,none⟩)] w fun e w'=>e = .returned (.int .u64 (sT d))∧w=w':=by
 have HD:=qh (depth_any h)
 obtain ⟨c0,c1,c19,c20,c21,c22⟩:=h.cells
 clear h
 by_cases h0:d.de=0
 ·go_enter Tryz.func28,Tryz.ntmps28
  go_wp2_with (go_at_call 36;refine HD.out.mono ?_;rintro e w' ⟨rfl,rfl⟩)
  go_ret
  exact ⟨ret_i (by simp [sT,h0]),rfl⟩
 ·go_enter Tryz.func28,Tryz.ntmps28
  go_wp2_with (go_at_call 36;refine HD.out.mono ?_;rintro e w' ⟨rfl,rfl⟩)
  go_ret
  exact ⟨ret_i (by simp [sT,h0]),rfl⟩
theorem goes_any (h:LAt w g d):Calls Tryz.prog 81 #[.pointer (some ⟨g,0,none⟩)] w fun e w'=>e = .returned (.int .i64 (gE d))∧w=w':=by
 obtain ⟨c0,c1,c19,c20,c21,c22⟩:=h.cells
 clear h
 go_enter Tryz.func81,Tryz.ntmps81
 go_wp2
 refine wp_scope_tail 0 rfl ?_
 by_cases h0:d.de=0
 ·go_wp2
  go_step3
  refine ⟨rfl,?_⟩
  go_wp2
  rw [jump_ret]
  go_ret
  exact ⟨ret_i (by simp [gE,h0]),rfl⟩
 ·cases hf:d.fa
  ·rw [hf] at c21
   go_wp2
   go_step3
   go_wp2
   rw [jump_ret]
   go_ret
   exact ⟨ret_i (by simp [gE,h0,hf]),rfl⟩
  ·rw [hf] at c21
   go_wp2
   go_step3
   refine ⟨rfl,?_⟩
   go_wp2
   rw [jump_ret]
   go_ret
   exact ⟨ret_i (by simp [gE,h0,hf]),rfl⟩
theorem close_any (h:LAt w g d) (k:Int):Calls Tryz.prog 82 #[.pointer (some ⟨g,0,none⟩),.int .u64 k] w fun e w'=>e = .returned (.tuple #[])∧LAt w' g (cl d k)∧w.grownBy w' (some g):=by
 obtain ⟨c0,c1,c19,c20,c21,c22⟩:=h.cells
 have HC:=qh h.blk
 have hl:=h.lt
 have HA:Hid (da (cl d k)=#[.int .i64 d.ne,.int .i64 0,.int .u32 0,.int .u32 0,.int .u32 0,.int .u32 0,.int .u32 0,.int .u32 0,.int .u32 0,.int .u32 0,.int .u32 0,.int .u32 0,.int .u32 0,.int .u32 0,.int .u32 0,.int .u32 0,.int .u32 0,.int .u32 0,.int .i64 0,.int .u64 k,.bool false,.bool false,.int .u32 0]):=qh rfl
 clear h
 go_enter Tryz.func82,Tryz.ntmps82
 go_wp2_with (first
  | ((with_reducible refine wpList_store_row rfl 126 _ _ rfl g (da (cl d k)) ?_ ?_ 126 _ HC.out (info53 _) ?_ (da_one _) ?_);((rfl));((rfl));((rw [da_size,da_size]))))
 refine bodyPost_end (results_none rfl _ _ _) rfl ?_
 exact ⟨rfl,⟨setRow_heap _ _ _ _ _ _ HC.out⟩,grown_row _ _⟩
end
end Go.Proofs.YtcoimipgilkmbaaGreatDoor.de
namespace Go.Proofs.YtcoimipgilkmbaaGreatDoor.de
set_option linter.unusedVariables false
set_option linter.unusedSimpArgs false
set_option maxRecDepth 1000000
set_option maxHeartbeats 16000000
open Go Go.ChangeShapes Go.WideShapes Go.ChangeAt Go.RowKit
open Go.Proofs.YtcoimipgilkmbaaGreatDoor.tt (U zd row tyne add_lit lt_of range_grown setCells_rest heap_setCells heap_setCells_other grown_setCells grown_setRow grown_new grown_drewN below_of grown_alloc grown_refl grown_trans grown_drew)
open Go.Proofs.YtcoimipgilkmbaaGreatDoor.oo (ref flag' gives older ret_bool jump_ret)
def nw (n:Int):Dl:=⟨n,0,zs,0,false,false,0⟩
def opn (d:Dl) (s:Sv) (x:Int):Dl:={ d with s:=s,st:=if d.st=0 then x else d.st }
def bE (d:Dl) (x:Int):Int:=if x=0 then 2 else if d.fa=true then 8 else if d.de=d.ne then 7 else 0
def bD (d:Dl) (s:Sv) (x:Int):Dl:=if bE d x=0 then (if d.de=0 then { opn d s x with de:=1 } else { d with de:=d.de + 1 }) else d
def eC (d:Dl):Bool:=decide (gE d=0) && decide (d.de=1)
def eD (d:Dl):Dl:=if gE d=0 then (if d.de=1 then cl d 0 else { d with de:=d.de - 1 }) else d
def fD (d:Dl) (c:Int):Dl:=if gE d=0 then { d with fa:=true,ca:=c } else d
theorem new_ok (n:Int) (w:World) (h1:1 ≤ n) (h8:n ≤ 8):Calls Tryz.prog 46 #[.int .i64 n] w fun e w'=>e = .returned (.tuple #[.pointer (some ⟨w.heap.size,0,none⟩),.int .i64 0])∧LAt w' w.heap.size (nw n)∧w.grownBy w' none:=by
 have e1:decide (n < 1)=false:=decide_eq_false (by omega)
 have e2:decide (8 < n)=false:=decide_eq_false (by omega)
 go_enter Tryz.func46,Tryz.ntmps46
 go_wp2
 go_ret2
 exact ⟨rfl,⟨heap_alloc_new w (.cells (da (nw n)) 126)⟩,grown_alloc (grown_refl _ _) _⟩
theorem new_no (n:Int) (w:World) (h:n < 1 ∨ 8 < n):Calls Tryz.prog 46 #[.int .i64 n] w fun e w'=>e = .returned (.tuple #[.pointer none,.int .i64 2])∧w=w':=by
 by_cases h1:n < 1
 ·go_enter Tryz.func46,Tryz.ntmps46
  go_wp2
  go_ret2
  exact ⟨rfl,rfl⟩
 ·have h8:8 < n:=by omega
  have e1:decide (n < 1)=false:=decide_eq_false (by omega)
  have e2:decide (8 < n)=true:=decide_eq_true (by omega)
  clear h h1 h8
  go_enter Tryz.func46,Tryz.ntmps46
  go_wp2
  go_ret2
  exact ⟨rfl,rfl⟩
section
variable {w:World} {ops:Array Oper} {rest:List Oper} {a:Act} {Q:Exit→Act→World→Prop} {dst:Option Tmp} {ty:TypeId} {pos:String} {after:Array Edge}
theorem load_d {d:Dl} {g:Nat} (x:Tmp) (hx:a.eval (.tmp x) = .pointer (some ⟨g,0,none⟩)) (hg:w.rangeAt g 0 (dl d))
  (h:wpList Tryz.prog ops Q rest (a.put dst (.agg (da d))) w):wpList Tryz.prog ops Q (⟨dst,.load 126 (.tmp x),ty,pos,after,none⟩ :: rest) a w:=
 wpList_load_mid rfl 126 (.tmp x) rfl g 0 hx (dl d) _ hg Tryz.underlying126 rfl (info53l d) h
theorem store_dN (d:Dl) (c:Array Value) (x y:Tmp) (hx:a.eval (.tmp x) = .pointer (some ⟨w.heap.size,0,none⟩)) (hy:a.eval (.tmp y) = .agg (da d)) (hc:c.size=23)
  (h:wpList Tryz.prog ops Q rest (a.put dst undef) (w.alloc (.cells (da d) 126))):wpList Tryz.prog ops Q (⟨dst,.store 126 (.tmp x) (.tmp y),ty,pos,after,none⟩ :: rest) a (w.alloc (.cells c 126)):=by
 refine wpList_store_row rfl 126 (.tmp x) (.tmp y) rfl w.heap.size (da d) hx hy 126 _ (heap_alloc_new _ _) (info53 d) (by rw [da_size,hc]) (da_one d) ?_
 rw [World.setRow_alloc_new];exact h
end
section
variable {w:World} {g:Nat} {d:Dl}
theorem copy_any (h:LAt w g d):Calls Tryz.prog 63 #[.pointer (some ⟨g,0,none⟩)] w fun e w'=>e = .returned (.pointer (some ⟨w.heap.size,0,none⟩))∧LAt w' w.heap.size d∧w.grownBy w' none:=by
 have HL:=qh h.all
 clear h
 go_enter Tryz.func63,Tryz.ntmps63
 go_wp2_with (first
  | ((with_reducible refine load_d _ ?_ HL.out ?_);((rfl)))
  | ((with_reducible refine store_dN d _ _ _ ?_ ?_ ?_ ?_);((rfl));((rfl));((rfl))))
 go_ret
 exact ⟨rfl,⟨heap_alloc_new w (.cells (da d) 126)⟩,grown_alloc (grown_refl _ _) _⟩
theorem open_any (h:LAt w g d) (s:Sv) (x:Int):Calls Tryz.prog 80 #[.pointer (some ⟨g,0,none⟩),.agg (sa s),.int .u64 x] w fun e w'=>e = .returned (.tuple #[])∧LAt w' g (opn d s x)∧w.grownBy w' (some g):=by
 have hl:=h.lt
 obtain ⟨w1,hw1⟩:∃ w1,w.alloc (.cells (sa s) 76)=w1:=⟨_,rfl⟩
 have hg1:w.grownBy w1 none:=hw1 ▸ grown_alloc (grown_refl _ _) _
 have HR:Hid (w1.rangeAt w.heap.size 0 (sl s)):=qh (hw1 ▸ sv_new w s _)
 have h1:=h.grown hg1 (by simp)
 obtain ⟨w2,hw2⟩:∃ w2,w1.setCells g 2 (sl s)=w2:=⟨_,rfl⟩
 have h2:LAt w2 g { d with s:=s }:=hw2 ▸ h1.put_s s
 have hg2:w.grownBy w2 (some g):=grown_trans (grown_to hg1) (hw2 ▸ grown_setCells _ _ _ _)
 have HT:=qh h1.there
 obtain ⟨c0,c1,c19,c20,c21,c22⟩:=h2.cells
 have f19:=h2.free 19
 have H2:=qh h2
 have HG2:=qh hg2
 have HW1:=qh hw1
 have HW2:=qh hw2
 clear h h1 h2 hg1 hg2 hw1 hw2 c0 c1 c20 c21 c22
 dsimp only at c19
 by_cases h0:d.st=0
 ·rw [h0] at c19
  go_enter Tryz.func80,Tryz.ntmps80
  go_wp2_with (first
   | (rw [HW1.out];(with_reducible refine load_sv s _ _ 0 ?_ HR.out ?_);((rfl)))
   | ((with_reducible refine store_mid s _ _ g 2 ?_ ?_ HT.out ?_);((rfl));((rfl));rw [HW2.out]))
  refine bodyPost_end (results_none rfl _ _ _) rfl ?_
  refine ⟨rfl,?_,grown_trans HG2.out (grown_setCell _ _ _ _)⟩
  have:=H2.out.put_st x
  unfold opn
  rw [if_pos h0];exact this
 ·have h0':(d.st == 0)=false:=by simp [h0]
  go_enter Tryz.func80,Tryz.ntmps80
  go_wp2_with (first
   | (rw [HW1.out];(with_reducible refine load_sv s _ _ 0 ?_ HR.out ?_);((rfl)))
   | ((with_reducible refine store_mid s _ _ g 2 ?_ ?_ HT.out ?_);((rfl));((rfl));rw [HW2.out]))
  refine bodyPost_end (results_none rfl _ _ _) rfl ?_
  refine ⟨rfl,?_,HG2.out⟩
  unfold opn
  rw [if_neg h0];exact H2.out
end
end Go.Proofs.YtcoimipgilkmbaaGreatDoor.de
namespace Go.Proofs.YtcoimipgilkmbaaGreatDoor.de
set_option linter.unusedVariables false
set_option linter.unusedSimpArgs false
set_option maxRecDepth 1000000
set_option maxHeartbeats 16000000
open Go Go.ChangeShapes Go.WideShapes Go.ChangeAt Go.RowKit
open Go.Proofs.YtcoimipgilkmbaaGreatDoor.tt (U zd row tyne add_lit lt_of range_grown setCells_rest heap_setCells heap_setCells_other grown_setCells grown_setRow grown_new grown_drewN below_of grown_alloc grown_refl grown_trans grown_drew)
open Go.Proofs.YtcoimipgilkmbaaGreatDoor.oo (ref flag' gives older ret_bool jump_ret)
section
variable {w:World} {g:Nat} {d:Dl}
theorem begin_any (h:LAt w g d) (s:Sv) (x:Int) (h0:0 ≤ d.de) (h8:d.de ≤ 8):Calls Tryz.prog 37 #[.pointer (some ⟨g,0,none⟩),.agg (sa s),.int .u64 x] w fun e w'=>e = .returned (.int .i64 (bE d x))∧LAt w' g (bD d s x)∧w.grownBy w' (some g):=by
 have hl:=h.lt
 obtain ⟨w1,hw1⟩:∃ w1,w.alloc (.cells (sa s) 76)=w1:=⟨_,rfl⟩
 have hg1:w.grownBy w1 (some g):=hw1 ▸ grown_to (grown_alloc (grown_refl _ _) _)
 have h1:LAt w1 g d:=h.grown (own:=none) (hw1 ▸ grown_alloc (grown_refl _ _) _) (by simp)
 have HR:Hid (w1.rangeAt w.heap.size 0 (sl s)):=qh (hw1 ▸ sv_new w s _)
 have HW1:=qh hw1
 obtain ⟨c0,c1,c19,c20,c21,c22⟩:=h1.cells
 have H1:=qh h1
 have HG1:=qh hg1
 clear h hw1 hg1 h1 c19 c20 c22 hl
 by_cases hx:x=0
 ·subst hx
  go_enter Tryz.func37,Tryz.ntmps37
  go_wp2
  rw [HW1.out]
  refine wp_scope_tail 0 rfl ?_
  go_wp2
  go_step3
  refine ⟨rfl,?_⟩
  go_wp2
  rw [jump_ret]
  go_ret
  have hE:bE d 0=2:=by simp [bE]
  exact ⟨ret_i hE.symm,by unfold bD;rw [hE];exact H1.out,HG1.out⟩
 ·have hx':(x == 0)=false:=by simp [hx]
  cases hf:d.fa
  ·rw [hf] at c21
   by_cases hd:d.de=d.ne
   ·have hd':(d.de == d.ne)=true:=by simp [hd]
    go_enter Tryz.func37,Tryz.ntmps37
    go_wp2
    rw [HW1.out]
    refine wp_scope_tail 0 rfl ?_
    go_wp2
    go_big_quiet (fail)
    go_wp2
    go_step3
    refine ⟨rfl,?_⟩
    go_wp2
    rw [jump_ret]
    go_ret
    have hE:bE d x=7:=by simp [bE,hx,hf,hd]
    exact ⟨ret_i hE.symm,by unfold bD;rw [hE];exact H1.out.same rfl,grown_drewN HG1.out _⟩
   ·have hd':(d.de == d.ne)=false:=by simp [hd]
    have hE:bE d x=0:=by simp [bE,hx,hf,hd]
    by_cases hz:d.de=0
    ·have hz':(d.de == 0)=true:=by simp [hz]
     have HO:Hid (∀ n,_):=qh fun n=>open_any (H1.out.same (w':=w1.drewN n) rfl) s x
     have HB:Hid (bD d s x={ opn d s x with de:=1 }):=qh (by unfold bD;rw [hE,if_pos rfl,if_pos hz])
     rw [hz] at c1 hd'
     have HZ:=qh hz
     have HRn:Hid (∀ n,(w1.drewN n).rangeAt w.heap.size 0 (sl s)):=qh fun _=>HR.out
     clear hz hz' hd hx
     go_enter Tryz.func37,Tryz.ntmps37
     go_wp2
     rw [HW1.out]
     refine wp_scope_tail 0 rfl ?_
     go_wp2
     go_big_quiet (fail)
     go_wp2_with (first
      | ((with_reducible refine load_sv s _ _ 0 ?_ (HRn.out _) ?_);((rfl)))
      | (go_at_call 80;(with_reducible refine (HO.out _).mono ?_);rintro e w3 ⟨rfl,h3,hg3⟩;have k1:=h3.cells.2.1;(rw [show (opn d s x).de=0 from HZ.out] at k1);have f1:=h3.free 1;have H3:=qh h3;have HG3:=qh hg3;clear h3 hg3))
     go_step3
     go_wp2
     rw [jump_ret]
     go_ret
     refine ⟨ret_i hE.symm,?_,grown_trans (grown_trans (grown_drewN HG1.out _) HG3.out) (grown_setCell _ _ _ _)⟩
     rw [HB.out]
     exact H3.out.put_de 1
    ·have hz':(d.de == 0)=false:=by simp [hz]
     have HB:Hid (bD d s x={ d with de:=d.de + 1 }):=qh (by unfold bD;rw [hE,if_pos rfl,if_neg hz])
     have f1:=H1.out.free 1
     clear hz hd hx
     go_enter Tryz.func37,Tryz.ntmps37
     go_wp2
     rw [HW1.out]
     refine wp_scope_tail 0 rfl ?_
     go_wp2
     go_big_quiet (fail)
     go_wp2
     go_step3
     go_wp2
     rw [jump_ret]
     go_ret
     refine ⟨ret_i hE.symm,?_,grown_trans (grown_drewN HG1.out _) (grown_setCell _ _ _ _)⟩
     rw [HB.out]
     exact (H1.out.same (w':=w1.drewN _) rfl).put_de _
  ·rw [hf] at c21
   go_enter Tryz.func37,Tryz.ntmps37
   go_wp2
   rw [HW1.out]
   refine wp_scope_tail 0 rfl ?_
   go_wp2
   go_step3
   refine ⟨rfl,?_⟩
   go_wp2
   rw [jump_ret]
   go_ret
   have hE:bE d x=8:=by simp [bE,hx,hf]
   exact ⟨ret_i hE.symm,by unfold bD;rw [hE];exact H1.out,HG1.out⟩
end
end Go.Proofs.YtcoimipgilkmbaaGreatDoor.de
namespace Go.Proofs.YtcoimipgilkmbaaGreatDoor.de
set_option linter.unusedVariables false
set_option linter.unusedSimpArgs false
set_option maxRecDepth 1000000
set_option maxHeartbeats 16000000
open Go Go.ChangeShapes Go.WideShapes Go.ChangeAt Go.RowKit
open Go.Proofs.YtcoimipgilkmbaaGreatDoor.tt (U zd row tyne add_lit lt_of range_grown setCells_rest heap_setCells heap_setCells_other grown_setCells grown_setRow grown_new grown_drewN below_of grown_alloc grown_refl grown_trans grown_drew)
open Go.Proofs.YtcoimipgilkmbaaGreatDoor.oo (ref flag' gives older ret_bool jump_ret)
def aD (d:Dl) (m:Bool) (x:Int):Dl:={ d with fl:=flag' (sT d) d.fl m x }
def rF (d:Dl) (x:Int):Bool:=decide (gE d=0) && gives d.st d.fl x
theorem gE_cases (d:Dl):gE d=0 ∨ gE d=8:=by unfold gE;split <;> simp
theorem gE_no {d:Dl} (h:gE d=0):¬ d.de=0∧d.fa=false:=by unfold gE at h;split at h <;> simp_all
section
variable {w:World} {g:Nat} {d:Dl}
theorem end_any (h:LAt w g d) (h0:0 ≤ d.de) (h8:d.de ≤ 8):Calls Tryz.prog 38 #[.pointer (some ⟨g,0,none⟩)] w fun e w'=>e = .returned (.tuple #[.bool (eC d),.int .i64 (gE d)])∧LAt w' g (eD d)∧w.grownBy w' (some g):=by
 have HG:=qh (goes_any h)
 have H:=qh h
 rcases gE_cases d with hE | hE
 ·obtain ⟨hz,hf⟩:=gE_no hE
  have HE:=qh hE
  rw [hE] at HG
  obtain ⟨c0,c1,c19,c20,c21,c22⟩:=h.cells
  have f1:=h.free 1
  clear hE hf c0 c19 c20 c21 c22 h
  by_cases h1:d.de=1
  ·have HB:Hid (eD d=cl d 0∧eC d=true):=qh (by unfold eD eC;rw [HE.out,if_pos rfl,if_pos h1];simp [h1])
   have HP:=qh (H.out.put_de 0)
   have HC:=qh (close_any HP.out 0)
   have k1:=HP.out.cells.2.1
   rw [show ({ d with de:=0 }:Dl).de=0 from rfl] at k1
   rw [h1] at c1
   clear h0 h8 h1 hz
   go_enter Tryz.func38,Tryz.ntmps38
   go_wp2_with (first
    | (go_at_call 81;(with_reducible refine HG.out.mono ?_);rintro e w1 ⟨rfl,rfl⟩)
    | (go_at_call 82;(with_reducible refine HC.out.mono ?_);rintro e w3 ⟨rfl,h3,hg3⟩;have H3:=qh h3;have HG3:=qh hg3;clear h3 hg3))
   go_ret2
   rw [HB.out.1,HB.out.2,HE.out]
   exact ⟨rfl,H3.out,grown_trans (grown_setCell _ _ _ _) HG3.out⟩
  ·have HB:Hid (eD d={ d with de:=d.de - 1 }∧eC d=false):=qh (by unfold eD eC;rw [HE.out,if_pos rfl,if_neg h1];simp [h1])
   obtain ⟨m,hm⟩:∃ m,d.de - 1=m:=⟨_,rfl⟩
   have HP:Hid (LAt (w.setCell ⟨g,1,none⟩ (.int .i64 m)) g { d with de:=d.de - 1 }):=qh (hm ▸ H.out.put_de _)
   have hm0:decide (0 < m)=true:=decide_eq_true (by omega)
   have hm1:d.de=m + 1:=by omega
   rw [hm1] at c1
   have hm2:0 ≤ m:=by omega
   have hm3:m ≤ 8:=by omega
   clear h0 h8 h1 hz hm1 hm
   go_enter Tryz.func38,Tryz.ntmps38
   go_wp2_with (first
    | (go_at_call 81;(with_reducible refine HG.out.mono ?_);rintro e w1 ⟨rfl,rfl⟩))
   go_ret2
   rw [HB.out.1,HB.out.2,HE.out]
   exact ⟨rfl,HP.out,grown_setCell _ _ _ _⟩
 ·have HB:Hid (eD d=d∧eC d=false):=qh (by unfold eD eC;rw [hE];simp)
  have HE:=qh hE
  rw [hE] at HG
  clear hE h
  go_enter Tryz.func38,Tryz.ntmps38
  go_wp2_with (first
   | (go_at_call 81;(with_reducible refine HG.out.mono ?_);rintro e w1 ⟨rfl,rfl⟩))
  go_ret2
  rw [HB.out.1,HB.out.2,HE.out]
  exact ⟨rfl,H.out,grown_refl _ _⟩
theorem fail_any (h:LAt w g d) (c:Int):Calls Tryz.prog 39 #[.pointer (some ⟨g,0,none⟩),.int .u32 c] w fun e w'=>e = .returned (.int .i64 (gE d))∧LAt w' g (fD d c)∧w.grownBy w' (some g):=by
 have HG:=qh (goes_any h)
 have H:=qh h
 rcases gE_cases d with hE | hE
 ·have HB:Hid (fD d c={ d with fa:=true,ca:=c }):=qh (by unfold fD;rw [hE];simp)
  have HE:=qh hE
  rw [hE] at HG
  obtain ⟨c0,c1,c19,c20,c21,c22⟩:=h.cells
  have f21:=h.free 21
  have f22:=h.free 22
  have HP:=qh ((H.out.put_fa true).put_ca c)
  clear hE c0 c1 c19 c20 h
  go_enter Tryz.func39,Tryz.ntmps39
  go_wp2_with (first
   | (go_at_call 81;(with_reducible refine HG.out.mono ?_);rintro e w1 ⟨rfl,rfl⟩))
  go_ret
  rw [HB.out,HE.out]
  exact ⟨rfl,HP.out,grown_trans (grown_setCell _ _ _ _) (grown_setCell _ _ _ _)⟩
 ·have HB:Hid (fD d c=d):=qh (by unfold fD;rw [hE];simp)
  have HE:=qh hE
  rw [hE] at HG
  clear hE h
  go_enter Tryz.func39,Tryz.ntmps39
  go_wp2_with (first
   | (go_at_call 81;(with_reducible refine HG.out.mono ?_);rintro e w1 ⟨rfl,rfl⟩))
  go_ret
  rw [HB.out,HE.out]
  exact ⟨rfl,H.out,grown_refl _ _⟩
theorem refused_any (h:LAt w g d) (x:Int):Calls Tryz.prog 138 #[.pointer (some ⟨g,0,none⟩),.int .u64 x] w fun e w'=>e = .returned (.bool (rF d x))∧∃ n,w'=w.drewN n:=by
 have HG:Hid (∀ n,_):=qh fun n=>goes_any (h.same (w':=w.drewN n) rfl)
 have HV:Hid (∀ n,_):=qh fun n=>oo.gives_any d.st d.fl x (w.drewN n)
 obtain ⟨c0,c1,c19,c20,c21,c22⟩:=h.cells
 have k19:∀ n,(w.drewN n).cell? ⟨g,19,none⟩=some (.int .u64 d.st):=fun _=>c19
 have k20:∀ n,(w.drewN n).cell? ⟨g,20,none⟩=some (.bool d.fl):=fun _=>c20
 rcases gE_cases d with hE | hE
 ·have HB:Hid (rF d x=gives d.st d.fl x):=qh (by unfold rF;rw [hE];simp)
  rw [hE] at HG
  clear hE h c0 c1 c21 c22
  go_enter Tryz.func138,Tryz.ntmps138
  go_wp2_with fail
  go_quiet (first
   | (go_at_call 81;exact Calls.quiet_of_same ((HG.out _).mono fun _ _ he=>⟨he.1,he.2.symm⟩))
   | (go_at_call 167;exact Calls.quiet_of_same ((HV.out _).mono fun _ _ he=>⟨he.1,he.2.symm⟩)))
  go_wp2_with fail
  go_ret
  exact ⟨ret_bool HB.out.symm,_,rfl⟩
 ·have HB:Hid (rF d x=false):=qh (by unfold rF;rw [hE];simp)
  rw [hE] at HG
  clear hE h c0 c1 c21 c22
  go_enter Tryz.func138,Tryz.ntmps138
  go_wp2_with fail
  go_quiet (first
   | (go_at_call 81;exact Calls.quiet_of_same ((HG.out _).mono fun _ _ he=>⟨he.1,he.2.symm⟩))
   | (go_at_call 167;exact Calls.quiet_of_same ((HV.out _).mono fun _ _ he=>⟨he.1,he.2.symm⟩)))
  go_wp2_with fail
  go_ret
  exact ⟨ret_bool HB.out.symm,_,rfl⟩
end
end Go.Proofs.YtcoimipgilkmbaaGreatDoor.de
namespace Go.Proofs.YtcoimipgilkmbaaGreatDoor.de
set_option linter.unusedVariables false
set_option linter.unusedSimpArgs false
set_option maxRecDepth 1000000
set_option maxHeartbeats 16000000
open Go Go.ChangeShapes Go.WideShapes Go.ChangeAt Go.RowKit
open Go.Proofs.YtcoimipgilkmbaaGreatDoor.tt (U zd row tyne add_lit lt_of range_grown setCells_rest heap_setCells heap_setCells_other grown_setCells grown_setRow grown_new grown_drewN below_of grown_alloc grown_refl grown_trans grown_drew)
open Go.Proofs.YtcoimipgilkmbaaGreatDoor.oo (ref flag' gives older ret_bool jump_ret)
section
variable {w:World} {g:Nat} {d:Dl}
theorem asked_any (h:LAt w g d) (m:Bool) (x:Int):Calls Tryz.prog 140 #[.pointer (some ⟨g,0,none⟩),.bool m,.int .u64 x] w fun e w'=>e = .returned (.bool (ref (sT d) m))∧LAt w' g (aD d m x)∧w.grownBy w' (some g):=by
 have HS:=qh (stamp_any (h.same (w':=w.drew) rfl))
 have HA:Hid (∀ w,_):=qh fun w=>oo.asked_any (sT d) d.fl m x w
 have H:=qh h
 obtain ⟨c0,c1,c19,c20,c21,c22⟩:=h.cells
 have f20:=h.free 20
 have k20:w.drew.cell? ⟨g,20,none⟩=some (.bool d.fl):=c20
 have kf20:w.drew.frozen? ⟨g,20,none⟩=false:=f20
 clear h c0 c1 c19 c21 c22
 go_enter Tryz.func140,Tryz.ntmps140
 go_wp2_with fail
 go_region_with (first
  | (go_at_call 28;((with_reducible refine HS.out.mono ?_);rintro e w2 ⟨rfl,rfl⟩))
  | (go_at_call 169;((with_reducible refine (HA.out _).mono ?_);rintro e w2 ⟨rfl,rfl⟩)))
 all_goals go_wp2_with fail
 all_goals go_ret
 all_goals exact ⟨rfl,(H.out.same (w':=w.drew) rfl).put_fl _,grown_trans (grown_drewN (grown_refl _ _) 1) (grown_setCell _ _ _ _)⟩
end
end Go.Proofs.YtcoimipgilkmbaaGreatDoor.de
namespace Go.Proofs.YtcoimipgilkmbaaGreatDoor.de
set_option linter.unusedVariables false
set_option linter.unusedSimpArgs false
set_option maxRecDepth 1000000
set_option maxHeartbeats 16000000
open Go Go.ChangeShapes Go.WideShapes Go.ChangeAt Go.RowKit
open Go.Proofs.YtcoimipgilkmbaaGreatDoor.tt (U zd row tyne add_lit lt_of range_grown setCells_rest heap_setCells heap_setCells_other grown_setCells grown_setRow grown_new grown_drewN below_of grown_alloc grown_refl grown_trans grown_drew)
open Go.Proofs.YtcoimipgilkmbaaGreatDoor.oo (ref flag' gives older ret_bool jump_ret)
def oE (d:Dl):Int:=if d.fa=true then 0 else 8
def oS (d:Dl):Sv:=if d.fa=true then d.s else zs
def oC (d:Dl):Int:=if d.fa=true then d.ca else 0
def kp (d:Dl):Int:=if bits .and .u32 d.ca 255=1 then d.st else 0
def oD (d:Dl):Dl:=if d.fa=true then cl d (kp d) else d
theorem there_grown {w w':World} {g n o:Nat} {own:Option Nat} (h:w.there g o n) (hg:w.grownBy w' own) (hn:some g ≠ own):w'.there g o n:=fun j hj=>by
 obtain ⟨h1,h2⟩:=h j hj
 obtain ⟨v,hv⟩:=Option.isSome_iff_exists.1 h1
 have hlt:g < w.heap.size:=by
  by_cases hl:g < w.heap.size
  ·exact hl
  ·have:w.heap[g]?=none:=Array.getElem?_eq_none (by omega)
   simp [World.cell?,this] at hv
 have hb:=hg.block g hlt hn
 exact ⟨by rw [World.cell?_of_block hb,hv];rfl,by rw [World.frozen?_of_block hb];exact h2⟩
section
variable {w:World} {g:Nat} {d:Dl}
theorem over_any (h:LAt w g d):Calls Tryz.prog 40 #[.pointer (some ⟨g,0,none⟩)] w fun e w'=>e = .returned (.tuple #[.agg (sa (oS d)),.int .u32 (oC d),.int .i64 (oE d)])∧LAt w' g (oD d)∧w.grownBy w' (some g):=by
 have hl:=h.lt
 obtain ⟨w1,hw1⟩:∃ w1,w.alloc (.cells (sa zs) 76)=w1:=⟨_,rfl⟩
 have hg1:w.grownBy w1 none:=hw1 ▸ grown_alloc (grown_refl _ _) _
 have hb1:w1.heap[w.heap.size]?=some (.cells (sa zs) 76 (0,0)):=hw1 ▸ heap_alloc_new _ _
 have h1:LAt w1 g d:=h.grown hg1 (by simp)
 have hne:g ≠ w.heap.size:=by omega
 rw [zs_sa] at hw1
 obtain ⟨c0,c1,c19,c20,c21,c22⟩:=h1.cells
 have ht:=there_new hb1 (sa_size _)
 have H1:=qh h1
 have HW1:=qh hw1
 have HG1:=qh hg1
 have HB1:=qh hb1
 clear h hl hw1 hg1 hb1 c0 c1 c19 c20
 cases hf:d.fa
 ·rw [hf] at c21
  have HV:Hid (oS d=zs∧oC d=0∧oE d=8∧oD d=d):=qh (by simp [oS,oC,oE,oD,hf])
  have HR:Hid (w1.rangeAt w.heap.size 0 (sl zs)):=qh (sv_at HB1.out)
  have HT:Hid (w1.there w.heap.size 0 17):=qh ht
  clear h1 hf c22 ht
  go_enter Tryz.func40,Tryz.ntmps40
  go_wp2
  rw [HW1.out]
  refine wp_scope_tail 0 rfl ?_
  go_wp2
  go_step3
  refine ⟨rfl,?_⟩
  go_wp2_with (first
   | ((with_reducible refine load_sv zs _ _ 0 ?_ HR.out ?_);((rfl)))
   | ((with_reducible refine store_mid zs _ _ w.heap.size 0 ?_ ?_ HT.out ?_);((rfl));((rfl))))
  rw [jump_ret]
  refine ret_sv3 rfl _ zs _ _ w.heap.size _ _ rfl rfl rfl (World.rangeAt_setCells_same _ _ _ _ (by rw [sl_len];exact HT.out)) ?_
  obtain ⟨v1,v2,v3,v4⟩:=HV.out
  rw [v1,v2,v3,v4]
  exact ⟨rfl,H1.out.grown (grown_setCells _ _ _ _) (by simpa using hne),grown_to (grown_new2 HG1.out (Nat.le_refl _) (grown_setCells _ _ _ _))⟩
 ·rw [hf] at c21
  obtain ⟨w2,hw2⟩:∃ w2,w1.drew.setCells w.heap.size 0 (sl d.s)=w2:=⟨_,rfl⟩
  have ht1:w1.drew.there w.heap.size 0 17:=ht
  have hg2:w1.drew.grownBy w2 (some w.heap.size):=hw2 ▸ grown_setCells _ _ _ _
  have h2:LAt w2 g d:=(h1.same (w':=w1.drew) rfl).grown hg2 (by simpa using hne)
  have HR2:Hid (w2.rangeAt w.heap.size 0 (sl d.s)):=qh (hw2 ▸ World.rangeAt_setCells_same _ _ _ _ (by rw [sl_len];exact ht1))
  have HT2:Hid (w2.there w.heap.size 0 17):=qh (hw2 ▸ World.there_setCells ht1 _ _ _)
  have HG2:Hid (w.grownBy w2 none):=qh (grown_new2 (grown_drewN HG1.out 1) (Nat.le_refl _) hg2)
  have hr:w1.rangeAt g 2 (sl d.s):=h1.save
  have hr2:w1.drew.rangeAt g 2 (sl d.s):=h1.save
  have hr3:w2.rangeAt g 2 (sl d.s):=h2.save
  have k22:w1.drew.cell? ⟨g,22,none⟩=some (.int .u32 d.ca):=c22
  have j22:w2.cell? ⟨g,22,none⟩=some (.int .u32 d.ca):=h2.cells.2.2.2.2.2
  have j19:w2.cell? ⟨g,19,none⟩=some (.int .u64 d.st):=h2.cells.2.2.1
  have HC:Hid (∀ k,_):=qh fun k=>close_any h2 k
  have HW2:=qh hw2
  have HK:Hid (w1.rangeAt g 2 (sl d.s)∧w1.cell? ⟨g,22,none⟩=some (.int .u32 d.ca)∧w1.there w.heap.size 0 17):=qh ⟨hr,c22,ht⟩
  have HK1:Hid (w1.drew.rangeAt g 2 (sl d.s)∧w1.drew.cell? ⟨g,22,none⟩=some (.int .u32 d.ca)∧w1.drew.there w.heap.size 0 17):=qh ⟨hr,c22,ht⟩
  have HK2:Hid ((w1.drew.setCells w.heap.size 0 (sl d.s)).rangeAt g 2 (sl d.s)∧(w1.drew.setCells w.heap.size 0 (sl d.s)).cell? ⟨g,22,none⟩=some (.int .u32 d.ca)∧(w1.drew.setCells w.heap.size 0 (sl d.s)).there w.heap.size 0 17):=qh ⟨by rw [HW2.out];exact hr3,by rw [HW2.out];exact j22,by rw [HW2.out];exact HT2.out⟩
  clear h1 h2 hw2 hg2 ht1 hr hr2 hr3 ht c22 k22
  go_enter Tryz.func40,Tryz.ntmps40
  go_wp2
  rw [HW1.out]
  refine wp_scope_tail 0 rfl ?_
  go_wp2_with fail
  obtain ⟨t,nn,HT,hagg,hsize,hld,hsz,hst⟩:=named
  have hsz:=hsz d.s
  have hst:=hst w.heap.size 0 d.s
  have hld:=hld g 2 d.s
  rw [HT.out.1,HT.out.2]
  go_region_held (fun w'=>w'.rangeAt g 2 (sl d.s)∧w'.cell? ⟨g,22,none⟩=some (.int .u32 d.ca)∧w'.there w.heap.size 0 17) (first | exact HK.out | exact HK1.out | exact HK2.out) (fail)
  rw [HW2.out]
  clear HT hagg hsize hld hsz hst HK HK1 HK2
  have HV:Hid (oS d=d.s∧oC d=d.ca∧oE d=0∧oD d=cl d (kp d)):=qh (by simp [oS,oC,oE,oD,hf])
  by_cases hc:bits .and .u32 d.ca 255=1
  ·have HC1:=qh (HC.out (kp d))
   have hk:kp d=d.st:=if_pos hc
   have hc':(bits .and .u32 d.ca 255 == 1)=true:=by simpa using hc
   rw [hk] at HC1
   have HKP:=qh hk
   clear HC hf hk hc
   go_wp2_with (first
    | (go_at_call 82;(with_reducible refine HC1.out.mono ?_);rintro e w3 ⟨rfl,h3,hg3⟩;have H3:=qh h3;have HG3:=qh hg3;have HR3:Hid (w3.rangeAt w.heap.size 0 (sl d.s)):=qh (range_grown HR2.out hg3 (by simpa using hne.symm));have HT3:Hid (w3.there w.heap.size 0 17):=qh (there_grown HT2.out hg3 (by simpa using hne.symm));clear h3 hg3))
   go_step3
   go_wp2_with (first
    | ((with_reducible refine load_sv d.s _ _ 0 ?_ HR3.out ?_);((rfl)))
    | ((with_reducible refine store_mid d.s _ _ w.heap.size 0 ?_ ?_ HT3.out ?_);((rfl));((rfl))))
   rw [jump_ret]
   refine ret_sv3 rfl _ d.s _ _ w.heap.size _ _ rfl rfl rfl (World.rangeAt_setCells_same _ _ _ _ (by rw [sl_len];exact HT3.out)) ?_
   obtain ⟨v1,v2,v3,v4⟩:=HV.out
   rw [v1,v2,v3,v4,HKP.out]
   exact ⟨rfl,H3.out.grown (grown_setCells _ _ _ _) (by simpa using hne),grown_new2 (grown_trans (grown_to HG2.out) HG3.out) (Nat.le_refl _) (grown_setCells _ _ _ _)⟩
  ·have HC1:=qh (HC.out (kp d))
   have hk:kp d=0:=if_neg hc
   have hc':(bits .and .u32 d.ca 255 == 1)=false:=by simpa using hc
   rw [hk] at HC1
   have HKP:=qh hk
   clear HC hf hk hc
   go_wp2_with (first
    | (go_at_call 82;(with_reducible refine HC1.out.mono ?_);rintro e w3 ⟨rfl,h3,hg3⟩;have H3:=qh h3;have HG3:=qh hg3;have HR3:Hid (w3.rangeAt w.heap.size 0 (sl d.s)):=qh (range_grown HR2.out hg3 (by simpa using hne.symm));have HT3:Hid (w3.there w.heap.size 0 17):=qh (there_grown HT2.out hg3 (by simpa using hne.symm));clear h3 hg3))
   go_step3
   go_wp2_with (first
    | ((with_reducible refine load_sv d.s _ _ 0 ?_ HR3.out ?_);((rfl)))
    | ((with_reducible refine store_mid d.s _ _ w.heap.size 0 ?_ ?_ HT3.out ?_);((rfl));((rfl))))
   rw [jump_ret]
   refine ret_sv3 rfl _ d.s _ _ w.heap.size _ _ rfl rfl rfl (World.rangeAt_setCells_same _ _ _ _ (by rw [sl_len];exact HT3.out)) ?_
   obtain ⟨v1,v2,v3,v4⟩:=HV.out
   rw [v1,v2,v3,v4,HKP.out]
   exact ⟨rfl,H3.out.grown (grown_setCells _ _ _ _) (by simpa using hne),grown_new2 (grown_trans (grown_to HG2.out) HG3.out) (Nat.le_refl _) (grown_setCells _ _ _ _)⟩
end
theorem copy_nil (w:World):Calls Tryz.prog 63 #[.pointer none] w fun e w'=>e = .returned (.pointer none)∧w=w':=by
 go_enter Tryz.func63,Tryz.ntmps63
 go_wp2
 go_ret
 exact ⟨rfl,rfl⟩
theorem goes_nil (w:World):Calls Tryz.prog 81 #[.pointer none] w fun e w'=>e = .returned (.int .i64 1)∧w=w':=by
 go_enter Tryz.func81,Tryz.ntmps81
 go_wp2
 refine wp_scope_tail 0 rfl ?_
 go_wp2
 go_step3
 refine ⟨rfl,?_⟩
 go_wp2
 rw [jump_ret]
 go_ret
 exact ⟨rfl,rfl⟩
end Go.Proofs.YtcoimipgilkmbaaGreatDoor.de
namespace Go.Proofs.YtcoimipgilkmbaaGreatDoor.de
set_option linter.unusedVariables false
set_option linter.unusedSimpArgs false
set_option maxRecDepth 1000000
set_option maxHeartbeats 16000000
open Go Go.ChangeShapes Go.WideShapes Go.ChangeAt Go.RowKit
open Go.Proofs.YtcoimipgilkmbaaGreatDoor.tt (U zd row tyne add_lit lt_of range_grown setCells_rest heap_setCells heap_setCells_other grown_setCells grown_setRow grown_new grown_drewN below_of grown_alloc grown_refl grown_trans grown_drew)
open Go.Proofs.YtcoimipgilkmbaaGreatDoor.oo (ref flag' gives older ret_bool jump_ret)
structure Inv (d:Dl):Prop where
 n1:1 ≤ d.ne
 n8:d.ne ≤ 8
 d0:0 ≤ d.de
 dn:d.de ≤ d.ne
 fl0:d.de=0→d.fl=false
 fa0:d.de=0→d.fa=false
 st0:d.de ≠ 0→d.st ≠ 0
 stp:0 ≤ d.st
 cap:0 ≤ d.ca
 cau:d.ca < 4294967296
theorem Inv.nw {n:Int} (h1:1 ≤ n) (h8:n ≤ 8):Inv (nw n):=⟨h1,h8,Int.le_refl _,by show (0:Int) ≤ n;omega,fun _=>rfl,fun _=>rfl,fun h=>(h rfl).elim,Int.le_refl _,Int.le_refl _,by show (0:Int) < 4294967296;decide⟩
theorem Inv.cl {d:Dl} (h:Inv d) {k:Int} (hk:0 ≤ k):Inv (cl d k):=⟨h.n1,h.n8,Int.le_refl _,by have:=h.n1;show (0:Int) ≤ d.ne;omega,fun _=>rfl,fun _=>rfl,fun h=>(h rfl).elim,hk,Int.le_refl _,by show (0:Int) < 4294967296;decide⟩
theorem bE_zero {d:Dl} {x:Int} (h:bE d x=0):x ≠ 0∧d.fa=false∧d.de ≠ d.ne:=by
 unfold bE at h
 by_cases h1:x=0
 ·simp [h1] at h
 ·by_cases h2:d.fa=true
  ·simp [h1,h2] at h
  ·by_cases h3:d.de=d.ne
   ·simp [h1,h2,h3] at h
   ·exact ⟨h1,by simpa using h2,h3⟩
theorem Inv.bD {d:Dl} (h:Inv d) {s:Sv} {x:Int} (hx:0 ≤ x):Inv (bD d s x):=by
 unfold de.bD
 by_cases he:bE d x=0
 ·obtain ⟨h1,h2,h3⟩:=bE_zero he
  rw [if_pos he]
  have a1:=h.n1
  have a2:=h.n8
  have a3:=h.d0
  have a4:=h.dn
  by_cases hz:d.de=0
  ·rw [if_pos hz]
   refine ⟨h.n1,h.n8,by show (0:Int) ≤ 1;decide,by show (1:Int) ≤ d.ne;omega,fun e=>?_,fun e=>?_,fun _=>?_,?_,h.cap,h.cau⟩
   ·exact absurd (show (1:Int)=0 from e) (by decide)
   ·exact absurd (show (1:Int)=0 from e) (by decide)
   ·show (if d.st=0 then x else d.st) ≠ 0
    split <;> assumption
   ·show 0 ≤ (if d.st=0 then x else d.st)
    have:=h.stp
    split <;> omega
  ·rw [if_neg hz]
   exact ⟨h.n1,h.n8,by show (0:Int) ≤ d.de + 1;omega,by show d.de + 1 ≤ d.ne;omega,fun e=>absurd (show d.de + 1=0 from e) (by omega),fun e=>absurd (show d.de + 1=0 from e) (by omega),fun _=>h.st0 hz,h.stp,h.cap,h.cau⟩
 ·rw [if_neg he];exact h
theorem Inv.eD {d:Dl} (h:Inv d):Inv (eD d):=by
 unfold de.eD
 by_cases he:gE d=0
 ·obtain ⟨hz,hf⟩:=gE_no he
  rw [if_pos he]
  have a3:=h.d0
  have a4:=h.dn
  by_cases h1:d.de=1
  ·rw [if_pos h1];exact h.cl (Int.le_refl _)
  ·rw [if_neg h1]
   exact ⟨h.n1,h.n8,by show (0:Int) ≤ d.de - 1;omega,by show d.de - 1 ≤ d.ne;omega,fun e=>absurd (show d.de - 1=0 from e) (by omega),fun e=>absurd (show d.de - 1=0 from e) (by omega),fun _=>h.st0 hz,h.stp,h.cap,h.cau⟩
 ·rw [if_neg he];exact h
theorem Inv.fD {d:Dl} (h:Inv d) {c:Int} (h0:0 ≤ c) (h1:c < 4294967296):Inv (fD d c):=by
 unfold de.fD
 by_cases he:gE d=0
 ·obtain ⟨hz,hf⟩:=gE_no he
  rw [if_pos he]
  exact ⟨h.n1,h.n8,h.d0,h.dn,h.fl0,fun e=>absurd e hz,h.st0,h.stp,h0,h1⟩
 ·rw [if_neg he];exact h
theorem kp_pos {d:Dl} (h:Inv d):0 ≤ kp d:=by
 unfold kp
 have:=h.stp
 split <;> omega
theorem Inv.oD {d:Dl} (h:Inv d):Inv (oD d):=by
 unfold de.oD
 split
 ·exact h.cl (kp_pos h)
 ·exact h
theorem Inv.aD {d:Dl} (h:Inv d) (m:Bool) (x:Int):Inv (aD d m x):=
 ⟨h.n1,h.n8,h.d0,h.dn,fun e=>by
  have e':d.de=0:=e
  show flag' (sT d) d.fl m x=false
  rw [h.fl0 e'];simp [flag',ref,sT,e'],h.fa0,h.st0,h.stp,h.cap,h.cau⟩
theorem sT_pos {d:Dl} (h:Inv d):0 ≤ sT d:=by
 unfold sT
 have:=h.stp
 split <;> omega
abbrev RAt (w:World) (g:Nat) (d:Dl):Prop:=DAt 78 w g d
def mir (d:Dl) (s:Sv) (c:Int):Dl:={ d with s:=s,ca:=c }
def Ag (d:Dl) (s:Sv) (c:Int):Prop:=(d.de ≠ 0→s=d.s)∧(d.fa=true→c=d.ca)
def Both (w:World) (g:Nat) (d:Dl):Prop:=∃ s c,RAt w g (mir d s c)∧Ag d s c
theorem and255 (c:Int) (h0:0 ≤ c) (h1:c < 4294967296):bits .and .u32 c 255=c % 256:=by
 have h:=bits_mask .u32 32 (by decide) (fun n h0 h1=>by rw [IntKind.wrap_u32];omega) 8 (by decide) c h0 (by omega)
 have e:((2:Int) ^ 8 - 1)=255:=by decide
 have e2:((2:Int) ^ 8)=256:=by decide
 rw [e,e2] at h
 exact h
section
variable {w:World} {g:Nat} {d:Dl} {s:Sv} {c:Int}
theorem rstamp_at (h:RAt w g d):Calls Tryz.prog 29 #[.pointer (some ⟨g,0,none⟩)] w fun e w'=>e = .returned (.int .u64 (sT d))∧w=w':=by
 obtain ⟨c0,c1,c19,c20,c21,c22⟩:=h.cells
 clear h
 by_cases h0:d.de=0
 ·rw [h0] at c1
  go_enter Tryz.func29,Tryz.ntmps29
  go_wp2
  go_ret
  exact ⟨ret_i (by simp [sT,h0]),rfl⟩
 ·have h0':(d.de == 0)=false:=by simp [h0]
  go_enter Tryz.func29,Tryz.ntmps29
  go_wp2
  go_ret
  exact ⟨ret_i (by simp [sT,h0]),rfl⟩
theorem rstamp_any (h:Both w g d):Calls Tryz.prog 29 #[.pointer (some ⟨g,0,none⟩)] w fun e w'=>e = .returned (.int .u64 (sT d))∧w=w':=by
 obtain ⟨s,c,h,_⟩:=h
 exact rstamp_at (d:=mir d s c) h
theorem Both.same {w':World} (h:Both w g d) (hb:w'.heap[g]?=w.heap[g]?):Both w' g d:=by
 obtain ⟨s,c,h,ha⟩:=h
 exact ⟨s,c,h.same hb,ha⟩
theorem Both.lt (h:Both w g d):g < w.heap.size:=by
 obtain ⟨s,c,h,ha⟩:=h
 exact h.lt
theorem Both.grown {w':World} (h:Both w g d) {own:Option Nat} (hg:w.grownBy w' own) (hn:some g ≠ own):Both w' g d:=h.same (hg.block g h.lt hn)
theorem Both.cells (h:Both w g d):w.cell? ⟨g,0,none⟩=some (.int .i64 d.ne)∧w.cell? ⟨g,1,none⟩=some (.int .i64 d.de)∧w.cell? ⟨g,19,none⟩=some (.int .u64 d.st)∧w.cell? ⟨g,20,none⟩=some (.bool d.fl)∧w.cell? ⟨g,21,none⟩=some (.bool d.fa):=by
 obtain ⟨s,c,h,ha⟩:=h
 obtain ⟨c0,c1,c19,c20,c21,c22⟩:=h.cells
 exact ⟨c0,c1,c19,c20,c21⟩
theorem rfail_any (I:Inv d) (h:Both w g d) (x:Int):Calls Tryz.prog 74 #[.pointer (some ⟨g,0,none⟩),.int .u32 x] w fun e w'=>e = .returned (.int .i64 (gE d))∧Both w' g (fD d x)∧w.grownBy w' (some g):=by
 obtain ⟨s,c,h,ha⟩:=h
 obtain ⟨c0,c1,c19,c20,c21,c22⟩:=h.cells
 have f21:=h.free 21
 have f22:=h.free 22
 have H:=qh (And.intro h ha)
 have k1:w.cell? ⟨g,1,none⟩=some (.int .i64 d.de):=c1
 have k21:w.cell? ⟨g,21,none⟩=some (.bool d.fa):=c21
 clear h ha c0 c1 c19 c20 c21
 by_cases hz:d.de=0
 ·have hE:gE d=8:=by simp [gE,hz]
  have HE:Hid (gE d=8∧fD d x=d):=qh ⟨hE,by unfold fD;rw [hE];simp⟩
  rw [hz] at k1
  clear hE hz c22
  go_enter Tryz.func74,Tryz.ntmps74
  go_wp2
  go_ret
  rw [HE.out.1,HE.out.2]
  exact ⟨rfl,⟨s,c,H.out.1,H.out.2⟩,grown_refl _ _⟩
 ·have hz':(d.de == 0)=false:=by simp [hz]
  cases hf:d.fa
  ·have hE:gE d=0:=by simp [gE,hz,hf]
   have HE:Hid (gE d=0∧fD d x={ d with fa:=true,ca:=x }):=qh ⟨hE,by unfold fD;rw [hE];simp⟩
   rw [hf] at k21
   clear hE hf
   go_enter Tryz.func74,Tryz.ntmps74
   go_wp2
   go_ret
   rw [HE.out.1,HE.out.2]
   exact ⟨rfl,⟨s,x,(H.out.1.put_fa true).put_ca x,H.out.2.1,fun _=>rfl⟩,grown_trans (grown_setCell _ _ _ _) (grown_setCell _ _ _ _)⟩
  ·have hE:gE d=8:=by simp [gE,hf]
   have HE:Hid (gE d=8∧fD d x=d):=qh ⟨hE,by unfold fD;rw [hE];simp⟩
   rw [hf] at k21
   clear hE hf c22
   go_enter Tryz.func74,Tryz.ntmps74
   go_wp2
   go_ret
   rw [HE.out.1,HE.out.2]
   exact ⟨rfl,⟨s,c,H.out.1,H.out.2⟩,grown_refl _ _⟩
theorem rend_any (I:Inv d) (h:Both w g d):Calls Tryz.prog 73 #[.pointer (some ⟨g,0,none⟩)] w fun e w'=>e = .returned (.tuple #[.bool (eC d),.int .i64 (gE d)])∧Both w' g (eD d)∧w.grownBy w' (some g):=by
 obtain ⟨s,c,h,ha⟩:=h
 obtain ⟨c0,c1,c19,c20,c21,c22⟩:=h.cells
 have f1:=h.free 1
 have f19:=h.free 19
 have f20:=h.free 20
 have H:=qh (And.intro h ha)
 have HI:=qh I
 have k1:w.cell? ⟨g,1,none⟩=some (.int .i64 d.de):=c1
 have k21:w.cell? ⟨g,21,none⟩=some (.bool d.fa):=c21
 clear h ha c0 c1 c21 c22 I
 by_cases hz:d.de=0
 ·have hE:gE d=8:=by simp [gE,hz]
  have HE:Hid (gE d=8∧eD d=d∧eC d=false):=qh ⟨hE,by unfold eD;rw [hE];simp,by unfold eC;rw [hE];simp⟩
  rw [hz] at k1
  clear hE hz c19 c20
  go_enter Tryz.func73,Tryz.ntmps73
  go_wp2
  go_ret2
  rw [HE.out.1,HE.out.2.1,HE.out.2.2]
  exact ⟨rfl,⟨s,c,H.out.1,H.out.2⟩,grown_refl _ _⟩
 ·have hz':(d.de == 0)=false:=by simp [hz]
  cases hf:d.fa
  ·have hE:gE d=0:=by simp [gE,hz,hf]
   rw [hf] at k21
   by_cases h1:d.de=1
   ·have HE:Hid (gE d=0∧eD d=cl d 0∧eC d=true):=qh ⟨hE,by unfold eD;rw [hE,if_pos rfl,if_pos h1],by unfold eC;rw [hE];simp [h1]⟩
    rw [h1] at k1
    have HF:=qh hf
    clear hE hf h1 hz hz'
    go_enter Tryz.func73,Tryz.ntmps73
    go_wp2
    go_ret2
    rw [HE.out.1,HE.out.2.1,HE.out.2.2]
    have:=((H.out.1.put_de 0).put_st 0).put_fl false
    refine ⟨rfl,⟨s,c,?_,fun h=>(h rfl).elim,fun h=>(by cases h)⟩,grown_trans (grown_trans (grown_setCell _ _ _ _) (grown_setCell _ _ _ _)) (grown_setCell _ _ _ _)⟩
    have e:mir (cl d 0) s c={ { { mir d s c with de:=0 } with st:=0 } with fl:=false }:=by simp [mir,cl,HF.out]
    rw [e];exact this
   ·have HE:Hid (gE d=0∧eD d={ d with de:=d.de - 1 }∧eC d=false):=qh ⟨hE,by unfold eD;rw [hE,if_pos rfl,if_neg h1],by unfold eC;rw [hE];simp [h1]⟩
    obtain ⟨m,hm⟩:∃ m,d.de - 1=m:=⟨_,rfl⟩
    have hm0:(m == 0)=false:=by
     have:m ≠ 0:=by omega
     simpa using this
    have hm1:d.de=m + 1:=by omega
    have hm2:0 ≤ m:=by have:=HI.out.d0;omega
    have hm3:m ≤ 8:=by have:=HI.out.dn;have:=HI.out.n8;omega
    have HP:Hid (RAt (w.setCell ⟨g,1,none⟩ (.int .i64 m)) g (mir { d with de:=d.de - 1 } s c)∧Ag { d with de:=d.de - 1 } s c):=qh ⟨by rw [hm];exact H.out.1.put_de m,fun _=>H.out.2.1 hz,H.out.2.2⟩
    rw [hm1] at k1
    clear hE hf h1 hz hz' hm1 hm
    go_enter Tryz.func73,Tryz.ntmps73
    go_wp2
    go_ret2
    rw [HE.out.1,HE.out.2.1,HE.out.2.2]
    exact ⟨by simp,⟨s,c,HP.out.1,HP.out.2⟩,grown_setCell _ _ _ _⟩
  ·have hE:gE d=8:=by simp [gE,hf]
   have HE:Hid (gE d=8∧eD d=d∧eC d=false):=qh ⟨hE,by unfold eD;rw [hE];simp,by unfold eC;rw [hE];simp⟩
   rw [hf] at k21
   clear hE hf c19 c20
   go_enter Tryz.func73,Tryz.ntmps73
   go_wp2
   go_ret2
   rw [HE.out.1,HE.out.2.1,HE.out.2.2]
   exact ⟨rfl,⟨s,c,H.out.1,H.out.2⟩,grown_refl _ _⟩
end
end Go.Proofs.YtcoimipgilkmbaaGreatDoor.de
