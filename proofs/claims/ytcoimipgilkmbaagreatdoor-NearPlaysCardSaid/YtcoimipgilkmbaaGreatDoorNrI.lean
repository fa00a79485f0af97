/-
 What the document's own near answers to one that wants a block, and what it is behind that: contracts. No condition but what each theorem names.
-/
import Derived.Test.YtcoimipgilkmbaaGreatDoorTl
import Derived.Test.YtcoimipgilkmbaaGreatDoorNry
import Derived.Deep.CutRange
namespace Go.Proofs.YtcoimipgilkmbaaGreatDoor.nr
set_option linter.unusedVariables false
set_option linter.unusedSimpArgs false
set_option maxRecDepth 1000000
set_option maxHeartbeats 16000000
open Go Go.ChangeShapes Go.WideShapes Go.ChangeAt Go.RowKit Go.Shelf
open Go.Proofs.YtcoimipgilkmbaaGreatDoor.tt (Cfg Nt na nt zn bare zd fits row tyne lt_of U grown_refl grown_alloc grown_trans grown_new grown_setCells grown_drew grown_drewN)
open Go.Proofs.YtcoimipgilkmbaaGreatDoor.kk (Ln St zl la ln cfind cdrop cuse cgoes cwrite cturn cput setAt setOf live fF Shp Rac Kept)
open Go.Proofs.YtcoimipgilkmbaaGreatDoor.bk (Bk rem kills puts putE fd fl Nd Rg dead fresh)
open Go.Proofs.YtcoimipgilkmbaaGreatDoor.mrk (Ms rdS wrS meets addE Dom)
open Go.Proofs.YtcoimipgilkmbaaGreatDoor.de (Dl sT gE rF aD)
open Go.Proofs.YtcoimipgilkmbaaGreatDoor.oo (ref)
theorem namedN:∃ (t:TypeId) (m:Nat),Hid (Op.load 37=Op.load t∧Op.store 37=Op.store t)∧(∀ w,(isAgg t).run Tryz.prog w = .ok true w)∧(∀ w,(sizeOf t).run Tryz.prog w = .ok m w) ∧
  (∀ (g o:Nat) (n:Nt) (w:World),w.rangeAt g o (nt n)→(loadCellsFrom ⟨g,o,none⟩ 0 m #[]).run Tryz.prog w = .ok (na n) w)∧(∀ n:Nt,(na n).size=m) ∧
  (∀ (g o:Nat) (n:Nt) (w:World),w.there g o 24→(storeCells ⟨g,o,none⟩ (na n).toList 0).run Tryz.prog w = .ok () (w.setCells g o (nt n))):=
 ⟨37,24,qh ⟨rfl,rfl⟩,Tryz.isAgg37,Tryz.sizeOf37,fun g o s w h=>by
  have:=run_loadCells_list (P:=Tryz.prog) w ⟨g,o,none⟩ (nt s) (fun j v hv=>by rw [tt.add_lit];exact h j v hv)
  simpa [loadCells,tt.nt_len,na] using this,tt.na_size,fun g o s w h=>by
  have:=run_storeCells_cells (P:=Tryz.prog) g o (nt s) 0 w (fun j hj=>by simpa using (h j (by rw [tt.nt_len] at hj;exact hj)).1) (fun j hj=>by simpa using (h j (by rw [tt.nt_len] at hj;exact hj)).2) (tt.nt_one s)
  simpa [na] using this⟩
theorem namedB:∃ (t:TypeId) (m:Nat),Hid (Op.store 35=Op.store t)∧(∀ w,(isAgg t).run Tryz.prog w = .ok true w)∧(∀ w,(sizeOf t).run Tryz.prog w = .ok m w)∧(∀ d:List Int,d.length=16→(row d).size=m) ∧
  (∀ (g o:Nat) (d:List Int) (hd:d.length=16) (w:World),w.there g o 16→(storeCells ⟨g,o,none⟩ (row d).toList 0).run Tryz.prog w = .ok () (w.setCells g o (d.map U))):=
 ⟨35,16,qh rfl,Tryz.isAgg35,Tryz.sizeOf35,fun d hd=>by simp [tt.row,hd],fun g o d hd w h=>by
  have hl:(d.map U).length=16:=by simp [hd]
  have:=run_storeCells_cells (P:=Tryz.prog) g o (d.map U) 0 w (fun j hj=>by simpa using (h j (by rw [hl] at hj;exact hj)).1) (fun j hj=>by simpa using (h j (by rw [hl] at hj;exact hj)).2) (fun v hv=>by obtain ⟨x,_,rfl⟩:=List.mem_map.1 hv;rfl)
  simpa [tt.row] using this⟩
theorem filled {w:World} {g:Nat} {cs:Array Value} {t:TypeId} (h:w.heap[g]?=some (.cells cs t (0,0))) {vs:List Value} (hl:vs.length=cs.size):(w.setCells g 0 vs).heap[g]?=some (.cells vs.toArray t (0,0)):=by
 obtain ⟨cur,h1,h2,_,h4⟩:=tt.heap_setCells g t vs 0 w cs h (by omega)
 rw [h1]
 have:cur=vs.toArray:=by
  apply Array.ext
  ·rw [h2,← hl];simp
  ·intro i hi hi2
   have hv:vs[i]?=some vs[i]:=List.getElem?_eq_getElem (by simpa using hi2)
   have:=h4 i _ hv
   rw [Nat.zero_add,Array.getElem?_eq_getElem hi] at this
   rw [Option.some.inj this];simp
 rw [this]
theorem there_at {w:World} {g:Nat} {cs:Array Value} {t:TypeId} (h:w.heap[g]?=some (.cells cs t (0,0))) {n:Nat} (hn:n ≤ cs.size):w.there g 0 n:=fun i hi=>by
 refine ⟨?_,frozen_of_row _ _ _ _ _ h⟩
 rw [cell_of_row _ _ _ _ _ _ h,Nat.zero_add,Array.getElem?_eq_getElem (by omega)];rfl
theorem there_new (w:World) (cs:Array Value) (t:TypeId) {n:Nat} (hn:n ≤ cs.size):(w.alloc (.cells cs t)).there w.heap.size 0 n:=fun i hi=>by
 refine ⟨?_,frozen_of_row _ _ _ _ _ (heap_alloc_new _ _)⟩
 rw [cell_of_row _ _ _ _ _ _ (heap_alloc_new _ _),Nat.zero_add,Array.getElem?_eq_getElem (by omega)];rfl
structure Mid (w W:World) (R:RL) (P:Pm) (k:Nr) (L:List (Nat × Obj)):Prop where
 rn:RN W R P k
 kp:Kept R.any w W
 hs:∀ p ∈ L,W.heap[p.1]?=some p.2
 lo:∀ p ∈ L,w.heap.size ≤ p.1
 nd:(L.map (·.1)).Nodup
 lt:∀ g,R.any g→g < w.heap.size
section
variable {w W W':World} {R:RL} {P:Pm} {k k':Nr} {L:List (Nat × Obj)}
theorem Mid.of (h:RN w R P k):Mid w w R P k []:=⟨h,Kept.of (grown_refl _ _),by simp,by simp,by simp,fun g hg=>h.lt hg⟩
theorem Mid.next (m:Mid w W R P k L) (h:RN W' R P k') (hk:Kept R.any W W'):Mid w W' R P k' L:=
 ⟨h,m.kp.trans hk,fun p hp=>(hk.block _ (Array.getElem?_eq_some_iff.1 (m.hs p hp)).1 (fun ho=>by have:=m.lt _ ho;have:=m.lo p hp;omega)).trans (m.hs p hp),m.lo,m.nd,m.lt⟩
theorem Mid.blt (m:Mid w W R P k L) {p:Nat × Obj} (hp:p ∈ L):p.1 < W.heap.size:=(Array.getElem?_eq_some_iff.1 (m.hs p hp)).1
theorem Mid.grown (m:Mid w W R P k L) (hg:W.grownBy W' none):Mid w W' R P k L:=m.next (m.rn.grown hg) (Kept.of hg)
theorem Mid.alloc (m:Mid w W R P k L) (cs:Array Value) (t:TypeId):Mid w (W.alloc (.cells cs t)) R P k ((W.heap.size,.cells cs t) :: L):=by
 have hg:W.grownBy (W.alloc (.cells cs t)) none:=grown_alloc (grown_refl _ _) _
 have m2:=m.grown hg
 refine ⟨m2.rn,m2.kp,?_,?_,?_,m.lt⟩
 ·intro p hp
  rcases List.mem_cons.1 hp with rfl | hp
  ·exact heap_alloc_new _ _
  ·exact m2.hs p hp
 ·intro p hp
  rcases List.mem_cons.1 hp with rfl | hp
  ·exact m.kp.size
  ·exact m.lo p hp
 ·rw [List.map_cons,List.nodup_cons]
  refine ⟨fun hm=>?_,m.nd⟩
  obtain ⟨p,hp,he⟩:=List.mem_map.1 hm
  have:=m.blt hp
  omega
theorem Mid.put (m:Mid w W R P k L) {i g:Nat} {x y:Obj} (hi:L[i]?=some (g,x)) (hg:W.grownBy W' (some g)) (hy:W'.heap[g]?=some y):Mid w W' R P k (L.set i (g,y)):=by
 have hm:=List.mem_of_getElem? hi
 have hn:∀ j,R.any j→j ≠ g:=fun j hj=>by have:=m.lt j hj;have:=m.lo _ hm;simp at this;omega
 have hmap:(L.set i (g,y)).map (·.1)=L.map (·.1):=by
  apply List.ext_getElem?
  intro j
  rw [List.map_set,List.getElem?_set]
  split
  ·rename_i e
   subst e
   split
   ·rw [List.getElem?_map,hi];rfl
   ·rename_i hlt
    rw [List.getElem?_eq_none (by omega)]
  ·rfl
 refine ⟨m.rn.same fun j hj=>hg.block j (m.rn.lt hj) (fun e=>hn j hj (Option.some.inj e)),m.kp.later hg (m.lo _ hm),?_,?_,by rw [hmap];exact m.nd,m.lt⟩
 ·intro p hp
  obtain ⟨j,hj⟩:=List.getElem?_of_mem hp
  rw [List.getElem?_set] at hj
  split at hj
  ·rename_i e
   subst e
   rw [if_pos (List.getElem?_eq_some_iff.1 hi).1] at hj
   cases hj
   exact hy
  ·rename_i hne
   refine (hg.block _ (m.blt (List.mem_of_getElem? hj)) (fun e=>hne ?_)).trans (m.hs p (List.mem_of_getElem? hj))
   refine (List.getElem?_inj (by rw [List.length_map];exact (List.getElem?_eq_some_iff.1 hi).1) m.nd).1 ?_
   rw [List.getElem?_map,List.getElem?_map,hi,hj]
   exact congrArg some (Option.some.inj e).symm
 ·intro p hp
  have:p.1 ∈ (L.set i (g,y)).map (·.1):=List.mem_map.2 ⟨p,hp,rfl⟩
  rw [hmap] at this
  obtain ⟨q,hq,he⟩:=List.mem_map.1 this
  rw [← he];exact m.lo q hq
theorem Mid.fresh (m:Mid w W R P k L) (cs:Array Value) (t:TypeId) {vs:List Value} (hl:vs.length=cs.size):Mid w ((W.alloc (.cells cs t)).setCells W.heap.size 0 vs) R P k ((W.heap.size,.cells vs.toArray t) :: L):=
 (m.alloc cs t).put (i:=0) rfl (grown_setCells _ _ _ _) (filled (heap_alloc_new _ _) hl)
theorem zn_na:na zn=#[.int .u8 0,.int .i64 0,.int .i64 0,.int .i64 0,.int .u64 0,.int .u8 0,.bool false,.bool false,.int .u32 0,.int .u32 0,.int .u32 0,.int .u32 0,.int .u32 0,.int .u32 0,.int .u32 0,.int .u32 0,.int .u32 0,.int .u32 0,.int .u32 0,.int .u32 0,.int .u32 0,.int .u32 0,.int .u32 0,.int .u32 0]:=rfl
abbrev on (n:Nt):Obj:= .cells (na n) 37
theorem put_h {W:World} {g:Nat} {o:Nt} (h:W.heap[g]?=some (on o)):(W.setCell ⟨g,6,none⟩ (.bool true)).heap[g]?=some (on { o with h:=true }):=by
 obtain ⟨hlt,hk⟩:=Array.getElem?_eq_some_iff.1 h
 show (W.heap.modify g _)[g]?=_
 rw [Array.getElem?_eq_getElem (by rw [Array.size_modify];exact hlt),Array.getElem_modify_self,hk]
 simp [on,na,nt]
theorem put_d {W:World} {g:Nat} {o:Nt} (h:W.heap[g]?=some (on o)) (d:List Int) (hd:d.length=16):(W.setCells g 8 (d.map U)).heap[g]?=some (on { o with d:=d,hd:=hd }):=by
 obtain ⟨cur,h1,h2,h3,h4⟩:=tt.heap_setCells g 37 (d.map U) 8 W (na o) h (by rw [tt.na_size,List.length_map];omega)
 rw [h1]
 have:cur=na { o with d:=d,hd:=hd }:=by
  apply Array.ext
  ·rw [h2,tt.na_size,tt.na_size]
  ·intro i hi hi2
   rw [tt.na_size] at hi2
   have e:cur[i]?=(na { o with d:=d,hd:=hd })[i]?:=by
    by_cases h8:i < 8
    ·rw [h3 i (.inl h8)]
     match i,h8 with
     | 0,_ | 1,_ | 2,_ | 3,_ | 4,_ | 5,_ | 6,_ | 7,_=>rfl
    ·obtain ⟨v,hv⟩:∃ v,(d.map U)[i - 8]?=some v:=⟨_,List.getElem?_eq_getElem (by rw [List.length_map];omega)⟩
     have:=h4 (i - 8) _ hv
     rw [show 8 + (i - 8)=i by omega] at this
     rw [this,← hv,na,List.getElem?_toArray,nt,show i=(i - 8) + 8 by omega]
     simp only [List.getElem?_cons_succ,Nat.add_sub_cancel]
   rw [Array.getElem?_eq_getElem hi,Array.getElem?_eq_getElem (by rw [tt.na_size];exact hi2)] at e
   exact Option.some.inj e
 rw [this]
theorem Mid.data (m:Mid w W R P k L) {i g:Nat} {o:Nt} (hi:L[i]?=some (g,on o)) (d:List Int) (hd:d.length=16):Mid w ((W.setCell ⟨g,6,none⟩ (.bool true)).setCells g 8 (d.map U)) R P k (L.set i (g,on { { o with h:=true } with d:=d,hd:=hd })):=by
 have m1:=m.put hi (kk.grown_setCell W g 6 _) (put_h (m.hs _ (List.mem_of_getElem? hi)))
 have hi1:(L.set i (g,on { o with h:=true }))[i]?=some (g,on { o with h:=true }):=by rw [List.getElem?_set,if_pos rfl,if_pos (List.getElem?_eq_some_iff.1 hi).1]
 have m2:=m1.put hi1 (grown_setCells _ _ _ _) (put_d (m1.hs _ (List.mem_of_getElem? hi1)) d hd)
 rw [List.set_set] at m2
 exact m2
abbrev ol (l:Ln):Obj:= .cells (la l) 50
abbrev od (d:List Int):Obj:= .cells (row d) 35
theorem there_mid {w W:World} {R:RL} {P:Pm} {k:Nr} {L:List (Nat × Obj)} (m:Mid w W R P k L) {g:Nat} {o:Nt} (hm:(g,on o) ∈ L):W.there g 8 16:=fun i hi=>by
 refine ⟨?_,frozen_of_row _ _ _ _ _ (m.hs _ hm)⟩
 rw [cell_of_row _ _ _ _ _ _ (m.hs _ hm),Array.getElem?_eq_getElem (by rw [tt.na_size];omega)];rfl
theorem range_d {w W:World} {R:RL} {P:Pm} {k:Nr} {L:List (Nat × Obj)} (m:Mid w W R P k L) {g:Nat} {l:Ln} (hm:(g,ol l) ∈ L):W.rangeAt g 2 (l.d.map U):=fun j v hv=>by
 have:=kk.range_of (m.hs _ hm) (2 + j) v (by rw [ln,show 2 + j=j + 2 from Nat.add_comm _ _];exact hv);rwa [Nat.zero_add] at this
theorem range_b {w W:World} {R:RL} {P:Pm} {k:Nr} {L:List (Nat × Obj)} (m:Mid w W R P k L) {g:Nat} {d:List Int} (hm:(g,od d) ∈ L):W.rangeAt g 0 (d.map U):=fun j v hv=>by
 rw [Nat.zero_add,cell_of_row _ _ j _ _ _ (m.hs _ hm),tt.row,List.getElem?_toArray];exact hv
theorem infoB:(Tryz.prog.info? 35).map (·.size)=some 16:=by kernel_rfl
section
variable {w:World} {ops:Array Oper} {rest:List Oper} {a:Act} {Q:Exit→Act→World→Prop} {dst:Option Tmp} {ty:TypeId} {pos:String} {after:Array Edge}
theorem load_b (d:List Int) (hd:d.length=16) (x:Tmp) (g o:Nat) (hx:a.eval (.tmp x) = .pointer (some ⟨g,o,none⟩)) (hr:w.rangeAt g o (d.map U)) (h:wpList Tryz.prog ops Q rest (a.put dst (.agg (row d))) w):wpList Tryz.prog ops Q (⟨dst,.load 35 (.tmp x),ty,pos,after,none⟩ :: rest) a w:=
 wpList_load_mid rfl 35 (.tmp x) rfl g o hx (d.map U) _ hr Tryz.underlying35 rfl (by rw [List.length_map,hd];exact infoB) h
theorem store_b (d:List Int) (hd:d.length=16) (x y:Tmp) (g o:Nat) (hx:a.eval (.tmp x) = .pointer (some ⟨g,o,none⟩)) (hy:a.eval (.tmp y) = .agg (row d)) (ht:w.there g o 16) (h:wpList Tryz.prog ops Q rest (a.put dst undef) (w.setCells g o (d.map U))):wpList Tryz.prog ops Q (⟨dst,.store 35 (.tmp x) (.tmp y),ty,pos,after,none⟩ :: rest) a w:=by
 have hs:(row d).size=16:=by simp [tt.row,hd]
 refine wpList_store_mid rfl 35 (.tmp x) (.tmp y) rfl g o (row d) hx hy (by rw [hs];exact ht) (by rw [hs];exact infoB) (all_oneCell_toArray (fun v hv=>by obtain ⟨x,_,rfl⟩:=List.mem_map.1 hv;rfl)) ?_
 exact h
end
theorem cellL {w W:World} {R:RL} {P:Pm} {k:Nr} {L:List (Nat × Obj)} (m:Mid w W R P k L) {g:Nat} {l:Ln} (hm:(g,ol l) ∈ L) (i:Nat) (v:Value) (hv:(ln l)[i]?=some v):W.cell? ⟨g,i,none⟩=some v:=by
 have:=kk.range_of (m.hs _ hm) i v hv;rwa [Nat.zero_add] at this
theorem cellN {w W:World} {R:RL} {P:Pm} {k:Nr} {L:List (Nat × Obj)} (m:Mid w W R P k L) {g:Nat} {n:Nt} (hm:(g,on n) ∈ L) (i:Nat) (v:Value) (hv:(nt n)[i]?=some v):W.cell? ⟨g,i,none⟩=some v:=tt.cell_at (tt.range_of (m.hs _ hm)) i v hv
end
def askedS (P:Pm) (k:Nr) (n:Nt):Nr:={ k with d:=aD k.d (met k n) n.st,bs:=if has P k n.b=false∧fl (bk.look k.bs n.b)=true then kills k.bs n.b else k.bs,ss:=if n.k=5 then (cdrop P.c k.ss n.b).1 else (cturn P.c k.ss n.b 1).1 }
theorem cturn_none {c:Cfg} {ss:List St} {b:Int} (s:Int) (h:(cfind c ss b).2=false):(cturn c ss b s).1=ss:=by
 unfold cfind at h
 unfold cturn
 cases hx:(setAt c ss b).1.findIdx? (kk.isOf b) with
 | none=>rfl
 | some j=>simp only [hx] at h;cases h
section
variable {w:World} {R:RL} {P:Pm} {k:Nr} (h:RN w R P k) (I:Inv P k)
include h I
theorem rask_yes (n:Nt) (hst:0 ≤ n.st) (hk:n.k=4 ∨ n.k=5) (hr:rfs k n=false):Calls Tryz.prog 119 #[.pointer (some ⟨R.q,0,none⟩),.agg (na n)] w fun e w'=>e = .returned (.agg (na (ackN P k n)))∧RN w' R P (askedS P k n)∧Kept R.any w w':=by
 obtain ⟨B,hB⟩:∃ B,w.heap.size=B:=⟨_,rfl⟩
 obtain ⟨W,hW⟩:∃ W,(w.alloc (.cells (na n) 37)).alloc (.cells (na zn) 37)=W:=⟨_,rfl⟩
 have m0:Mid w W R P k [(B + 1,on zn),(B,on n)]:=by
  have:=((Mid.of h).alloc (na n) 37).alloc (na zn) 37
  rw [hW] at this
  have e:(w.alloc (.cells (na n) 37)).heap.size=w.heap.size + 1:=by simp
  rw [e,hB] at this
  exact this
 have HA:Hid (∀ W',Mid w W' R P k [(B + 1,on zn),(B,on n)]→Calls Tryz.prog 156 #[.pointer (some ⟨R.mr,0,none⟩),.int .u8 n.k,.int .i64 n.b] W' fun e w'=>e = .returned (.bool (met k n))∧Mid w w' R P k [(B + 1,on zn),(B,on n)]):=qh fun W' m=>(mrk.rmeets_any m.rn.mr n.k n.b).mono fun e w' hh=>⟨hh.1,m.grown hh.2⟩
 obtain ⟨k3,hk3⟩:∃ k3,({ k with d:=aD k.d (met k n) n.st }:Nr)=k3:=⟨_,rfl⟩
 have HB:Hid (∀ W',Mid w W' R P k [(B + 1,on zn),(B,on n)]→Calls Tryz.prog 155 #[.pointer (some ⟨R.dg,0,none⟩),.bool (met k n),.int .u64 n.st] W' fun e w'=>e = .returned (.bool false)∧Mid w w' R P k3 [(B + 1,on zn),(B,on n)]):=qh fun W' m=>(de.rasked_any I.dl m.rn.dl (met k n) n.st hst).mono fun e w' hh=>⟨by rw [hh.1];exact congrArg (fun x=>Ending.returned (.bool x)) hr,hk3 ▸ m.next (m.rn.put_dl hh.2.1 hh.2.2) (Kept.one hh.2.2 (any_dg R))⟩
 have HS:Hid (∀ (W':World) k',Mid w W' R P k' [(B + 1,on zn),(B,on n)]→W'.cell? ⟨R.q,12,none⟩=some (.pointer (some ⟨R.dg,0,none⟩))∧W'.cell? ⟨R.q,11,none⟩=some (.pointer (some ⟨R.mr,0,none⟩))∧W'.cell? ⟨B,0,none⟩=some (.int .u8 n.k)∧W'.cell? ⟨B,3,none⟩=some (.int .i64 n.b)∧W'.cell? ⟨B,4,none⟩=some (.int .u64 n.st)):=qh fun W' k' m=>⟨m.rn.c5,m.rn.c4,cellN m (.tail _ (.head _)) 0 _ rfl,cellN m (.tail _ (.head _)) 3 _ rfl,cellN m (.tail _ (.head _)) 4 _ rfl⟩
 have HD:Hid (∀ (W':World) k',Mid w W' R P k' [(B + 1,on zn),(B,on n)]→W'.cell? ⟨R.q,8,none⟩=some (.int .i64 P.core)∧W'.cell? ⟨B,3,none⟩=some (.int .i64 n.b)):=qh fun W' k' m=>⟨m.rn.c1,cellN m (.tail _ (.head _)) 3 _ rfl⟩
 have hI3:kk.Inv P.c k3.ss:=by rw [← hk3];exact I.ch
 obtain ⟨l,hl⟩:∃ l,(cfind P.c k3.ss n.b).1=l:=⟨_,rfl⟩
 obtain ⟨f,hf⟩:∃ f,(cfind P.c k3.ss n.b).2=f:=⟨_,rfl⟩
 have HF:Hid (∀ (W':World) L,Mid w W' R P k3 L→Calls Tryz.prog 32 #[.pointer (some ⟨R.c.b,0,none⟩),.int .i64 n.b] W' fun e w'=>e = .returned (.tuple #[.agg (la l),.bool f])∧Mid w w' R P k3 L):=qh fun W' L m=>(kk.rfind_any R.c P.c k3.ss W' m.rn.ca hI3 n.b).mono fun e w' hh=>⟨by rw [hh.1,hl,hf],m.grown hh.2⟩
 have HC:Hid (∀ (W':World) o,Mid w W' R P k3 [(o,on (bare 9 P.core (-1) n.b 0 0 false false)),(B + 1,on zn),(B,on n)]→W'.cell? ⟨R.q,9,none⟩=some (.pointer (some ⟨R.c.b,0,none⟩))∧W'.cell? ⟨B,3,none⟩=some (.int .i64 n.b)):=qh fun W' o m=>⟨m.rn.c2,cellN m (.tail _ (.tail _ (.head _))) 3 _ rfl⟩
 have HC5:Hid (∀ (W':World) a o,Mid w W' R P k3 [a,(o,on (bare 9 P.core (-1) n.b 0 0 false false)),(B + 1,on zn),(B,on n)]→W'.cell? ⟨R.q,9,none⟩=some (.pointer (some ⟨R.c.b,0,none⟩))∧W'.cell? ⟨B,3,none⟩=some (.int .i64 n.b)):=qh fun W' a o m=>⟨m.rn.c2,cellN m (.tail _ (.tail _ (.tail _ (.head _)))) 3 _ rfl⟩
 have hbs:k3.bs=k.bs:=by rw [← hk3]
 obtain ⟨dd,hdl⟩:∃ dd,fd (bk.look k3.bs n.b)=dd:=⟨_,rfl⟩
 obtain ⟨lv,hlv⟩:∃ lv,fl (bk.look k3.bs n.b)=lv:=⟨_,rfl⟩
 obtain ⟨hb,hhb⟩:∃ hb,(bk.look k3.bs n.b).isSome=hb:=⟨_,rfl⟩
 have hdd:dd.length=16:=by rw [← hdl];cases bk.look k3.bs n.b with
  | none=>rfl
  | some x=>exact x.hd
 have HFb:Hid (∀ (W':World) L,Mid w W' R P k3 L→Calls Tryz.prog 33 #[.pointer (some ⟨R.br,0,none⟩),.int .i64 n.b] W' fun e w'=>e = .returned (.tuple #[.agg (row dd),.bool lv,.bool hb])∧Mid w w' R P k3 L):=qh fun W' L m=>(bk.rfind_any m.rn.ba (hbs ▸ I.rg) n.b).mono fun e w' hh=>⟨by rw [hh.1,hdl,hlv,hhb],m.grown hh.2⟩
 have HCb:Hid (∀ (W':World) a o,Mid w W' R P k3 [a,(o,on (bare 9 P.core (-1) n.b 0 0 false false)),(B + 1,on zn),(B,on n)]→W'.cell? ⟨R.q,10,none⟩=some (.pointer (some ⟨R.br,0,none⟩))∧W'.cell? ⟨B,3,none⟩=some (.int .i64 n.b)):=qh fun W' a o m=>⟨m.rn.c3,cellN m (.tail _ (.tail _ (.tail _ (.head _)))) 3 _ rfl⟩
 have HCb5:Hid (∀ (W':World) b a o,Mid w W' R P k3 [b,a,(o,on (bare 9 P.core (-1) n.b 0 0 false false)),(B + 1,on zn),(B,on n)]→W'.cell? ⟨R.q,10,none⟩=some (.pointer (some ⟨R.br,0,none⟩))∧W'.cell? ⟨B,3,none⟩=some (.int .i64 n.b)):=qh fun W' b a o m=>⟨m.rn.c3,cellN m (.tail _ (.tail _ (.tail _ (.tail _ (.head _))))) 3 _ rfl⟩
 obtain ⟨hs,hhs⟩:∃ hs,has P k n.b=hs:=⟨_,rfl⟩
 have HH:Hid ((f=false→hs=false)∧(f=true→decide (2 ≤ l.s)=hs)):=qh (by
  rw [← hhs,← hf,← hl,← hk3]
  unfold has
  refine ⟨fun e=>by rw [e];rfl,fun e=>?_⟩
  rw [e,Bool.true_and]
  have e2:(line P k n.b).isSome=true:=by rw [← cf2];exact e
  obtain ⟨x,hx⟩:=Option.isSome_iff_exists.1 e2
  have hm:=(I.lmay hx)
  show decide (2 ≤ (cfind P.c k.ss n.b).1.s)=decide ((cfind P.c k.ss n.b).1.s ≠ 1)
  rw [cf1,hx]
  have h1:=hm.2
  simp only [Option.getD_some]
  rw [decide_eq_decide]
  omega)
 obtain ⟨ak,hak⟩:∃ a,ackN P k n=a:=⟨_,rfl⟩
 obtain ⟨k4,hk4⟩:∃ k4,({ k3 with bs:=if hs=false∧lv=true then kills k3.bs n.b else k3.bs }:Nr)=k4:=⟨_,rfl⟩
 have HKT:Hid (hs=true→k4=k3∧ak={ { bare 9 P.core (-1) n.b 0 0 false false with h:=true } with d:=l.d,hd:=l.h }):=qh fun e=>⟨by rw [← hk4,e];rfl,by rw [← hak,ackN,hhs,e,if_pos rfl];subst hl;rw [← hk3];rfl⟩
 have HKF:Hid (hs=false→lv=true→k4={ k3 with bs:=kills k3.bs n.b }∧ak={ { bare 9 P.core (-1) n.b 0 0 false false with h:=true } with d:=dd,hd:=hdd }):=qh fun e e2=>⟨by rw [← hk4,if_pos ⟨e,e2⟩],by
  rw [← hak,ackN,hhs,e,if_neg (by decide)]
  rw [e2] at hlv
  subst hdl
  rw [hbs] at hlv
  revert hdd
  rw [hbs]
  cases hx:bk.look k.bs n.b with
  | none=>rw [hx] at hlv;cases hlv
  | some x=>
   intro _
   rw [hx] at hlv
   have hl1:x.l=true:=hlv
   simp only [hl1,if_true]
   rfl⟩
 have HKN:Hid (hs=false→lv=false→k4=k3∧ak=bare 9 P.core (-1) n.b 0 0 false false):=qh fun e e2=>⟨by rw [← hk4,if_neg (fun hx=>by rw [e2] at hx;exact absurd hx.2 (by decide))],by
  rw [← hak,ackN,hhs,e,if_neg (by decide)]
  rw [e2] at hlv
  rw [hbs] at hlv
  cases hx:bk.look k.bs n.b with
  | none=>rfl
  | some x=>
   rw [hx] at hlv
   have hl1:x.l=false:=hlv
   simp only [hl1]
   rfl⟩
 have hnd:Nd k3.bs:=hbs ▸ I.nd
 have HKI:Hid (∀ (W':World) L,Mid w W' R P k3 L→Calls Tryz.prog 157 #[.pointer (some ⟨R.br,0,none⟩),.int .i64 n.b] W' fun e w'=>(∃ v,e = .returned (.bool v))∧Mid w w' R P { k3 with bs:=kills k3.bs n.b } L):=qh fun W' L m=>(bk.rkill_any m.rn.ba hnd (hbs ▸ I.rg) n.b).mono fun e w' hh=>⟨⟨_,hh.1⟩,m.next (m.rn.put_ba hh.2.1 hh.2.2) (Kept.one hh.2.2 (any_bg R))⟩
 have hI4:kk.Inv P.c k4.ss:=by rw [← hk4];exact hI3
 obtain ⟨k5,hk5⟩:∃ k5,({ k4 with ss:=if n.k=5 then (cdrop P.c k4.ss n.b).1 else (cturn P.c k4.ss n.b 1).1 }:Nr)=k5:=⟨_,rfl⟩
 have HK5T:Hid (n.k=5→k5={ k4 with ss:=(cdrop P.c k4.ss n.b).1 }):=qh fun e=>by rw [← hk5,if_pos e]
 have HK4T:Hid (¬ n.k=5→(f=false→k5=k4)∧(f=true→k5={ k4 with ss:=(cturn P.c k4.ss n.b 1).1 })):=qh fun e=>⟨fun e2=>by
  rw [← hk5,if_neg e,cturn_none]
  rw [← hk4]
  exact hf.trans e2,fun _=>by rw [← hk5,if_neg e]⟩
 have HFIN:Hid (k5=askedS P k n∧ackN P k n=ak):=qh ⟨by rw [← hk5,← hk4,← hk3,askedS,← hhs,← hlv,← hk3],hak⟩
 have HK:=qh hk
 have HDR:Hid (∀ (W':World) L,Mid w W' R P k4 L→Calls Tryz.prog 110 #[.pointer (some ⟨R.c.b,0,none⟩),.int .i64 n.b] W' fun e w'=>(∃ v,e = .returned (.bool v))∧Mid w w' R P { k4 with ss:=(cdrop P.c k4.ss n.b).1 } L):=qh fun W' L m=>(kk.rdrop_any R.c P.c k4.ss W' m.rn.ca hI4 n.b).mono fun e w' hh=>⟨⟨_,hh.1⟩,m.next (m.rn.put_ca hh.2.1 hh.2.2) (Kept.any hh.2.2)⟩
 have HTU:Hid (∀ (W':World) L,Mid w W' R P k4 L→Calls Tryz.prog 158 #[.pointer (some ⟨R.c.b,0,none⟩),.int .i64 n.b,.int .u8 1] W' fun e w'=>(∃ v,e = .returned (.int .i64 v))∧Mid w w' R P { k4 with ss:=(cturn P.c k4.ss n.b 1).1 } L):=qh fun W' L m=>(kk.rturn_any R.c P.c k4.ss W' m.rn.ca hI4 n.b 1).mono fun e w' hh=>⟨⟨_,hh.1⟩,m.next (m.rn.put_ca hh.2.1 hh.2.2) (Kept.any hh.2.2)⟩
 have HZB:Hid (row zd=_):=qh (show row zd=#[.int .u32 0,.int .u32 0,.int .u32 0,.int .u32 0,.int .u32 0,.int .u32 0,.int .u32 0,.int .u32 0,.int .u32 0,.int .u32 0,.int .u32 0,.int .u32 0,.int .u32 0,.int .u32 0,.int .u32 0,.int .u32 0] from rfl)
 have HZL:=qh kk.zl_la
 have HZ:=qh zn_na
 have M1:=qh (m0.grown (grown_drew (grown_refl W none)))
 obtain ⟨o,ho⟩:∃ o,bare 9 P.core (-1) n.b 0 0 false false=o:=⟨_,rfl⟩
 rw [ho] at HC HC5 HCb HCb5 HKT HKF HKN
 have HE:Hid (#[.int .u8 9,.int .i64 P.core,.int .i64 (-1),.int .i64 n.b,.int .u64 0,.int .u8 0,.bool false,.bool false,.int .u32 0,.int .u32 0,.int .u32 0,.int .u32 0,.int .u32 0,.int .u32 0,.int .u32 0,.int .u32 0,.int .u32 0,.int .u32 0,.int .u32 0,.int .u32 0,.int .u32 0,.int .u32 0,.int .u32 0,.int .u32 0]=na o):=qh (ho ▸ rfl)
 rw [HZ.out] at hW
 clear h I hst m0 hr hk3 ho hl hf hI3 hbs hdl hlv hhb hhs hak hk4 hnd hI4 hk5 hk
 go_enter Tryz.func119,Tryz.ntmps119
 go_upto_region 1 with fail
 go_region_held3 (fun W'=>W'.cell? ⟨R.q,12,none⟩=some (.pointer (some ⟨R.dg,0,none⟩))∧W'.cell? ⟨R.q,11,none⟩=some (.pointer (some ⟨R.mr,0,none⟩))∧W'.cell? ⟨B,0,none⟩=some (.int .u8 n.k)∧W'.cell? ⟨B,3,none⟩=some (.int .i64 n.b)∧W'.cell? ⟨B,4,none⟩=some (.int .u64 n.st))
  (first | exact HS.out _ _ M1.out | exact HS.out _ _ M2.out | exact HS.out _ _ M3.out)
  (first
   | (go_at_call 156;((with_reducible refine (HA.out _ M1.out).mono ?_);rintro e w2 ⟨rfl,hg2⟩;have M2:=qh hg2;clear hg2))
   | (go_at_call 155;((with_reducible refine (HB.out _ M2.out).mono ?_);rintro e w3 ⟨rfl,hh⟩;have M3:=qh hh;clear hh)))
 obtain ⟨d0,d1⟩:=HD.out _ _ M3.out
 go_upto_region 3 with fail
 have M5:=qh ((M3.out.alloc (na zn) 37).grown (grown_drew (grown_refl _ none)))
 have M4:Hid (Mid w ((w3.alloc (.cells (na zn) 37)).drew.setCells w3.heap.size 0 (nt o)) R P k3 [(w3.heap.size,on o),(B + 1,on zn),(B,on n)]):=qh (M5.out.put (i:=0) rfl (grown_setCells _ _ _ _) (filled (M5.out.hs _ (.head _)) (by rw [tt.na_size,tt.nt_len])))
 have HD2:Hid (w3.drew.cell? ⟨R.q,8,none⟩=some (.int .i64 P.core)∧w3.drew.cell? ⟨B,3,none⟩=some (.int .i64 n.b)):=qh ⟨d0,d1⟩
 have HD3:=qh (And.intro M5.out.rn.c1 (cellN M5.out (.tail _ (.tail _ (.head _))) 3 _ rfl))
 have HD4:=qh (And.intro M4.out.rn.c1 (cellN M4.out (.tail _ (.tail _ (.head _))) 3 _ rfl))
 have hth:(w3.alloc (.cells (na zn) 37)).drew.there w3.heap.size 0 24:=(there_new w3 (na zn) 37 (n:=24) (by rw [tt.na_size];exact Nat.le_refl _))
 rw [HZ.out] at hth HD3 HD4 M4
 clear M5
 obtain ⟨t,nn,HT,hagg,hsize,hld,hsz,hst⟩:=namedN
 have hst2:=hst _ 0 o _ hth
 have hsz2:=hsz o
 rw [HT.out.2]
 clear hth hst hld hsz
 refine wp_region_held_drew (S:=fun w'=>w'.cell? ⟨R.q,8,none⟩=some (.int .i64 P.core)∧w'.cell? ⟨B,3,none⟩=some (.int .i64 n.b)) (by kernel_rfl) HD2.out (fun hHeld=>?_)
 refine tl 0 ?_ rfl ?_ ?_ (tl 1 ?_ rfl ?_ ?_ (tl 2 ?_ rfl ?_ ?_ (tl 3 ?_ rfl ?_ ?_ (tl 4 ?_ rfl ?_ ?_ (tl 5 ?_ rfl ?_ ?_ (tl 6 ?_ rfl ?_ ?_ ?_))))))
 iterate 7 (rotate_left;(next=>(try simp only [lay]);((intro w0 hSw;(try dsimp only at hSw);obtain ⟨hs1,hs2⟩:=hSw;go_simp);try (with_reducible rfl)));next=>rfl)
 try simp only [lay]
 rw [HE.out]
 refine rd 7 rfl fun K hK=>?_
 go_simp
 refine hK.out _ _ HD3.out (fun hHeld2=>?_)
 clear hK K
 try simp only [lay]
 refine rd 8 rfl fun K hK=>?_
 go_simp
 refine hK.out _ _ HD4.out (fun hHeld3=>?_)
 clear hK K
 try simp only [lay]
 refine wpAnyH_done (by kernel_rfl) ?_ _
 obtain ⟨w4,hw4⟩:∃ w4,(w3.alloc (.cells (na zn) 37)).drew.setCells w3.heap.size 0 (nt o)=w4:=⟨_,rfl⟩
 rw [HZ.out] at hw4
 rw [hw4] at M4 ⊢
 clear hw4 HD2 HD3 HD4 hst2 hsz2
 obtain ⟨G,hG⟩:∃ G,w3.heap.size=G:=⟨_,rfl⟩
 rw [hG] at M4 ⊢
 go_upto_region 4 with fail
 go_cut [6,7] from 46 to 55 (fun s6 s7 wx=>∃ G6,(s6 = .pointer (some ⟨G6,0,none⟩)∧s7 = .bool f)∧Mid w wx R P k3 [(G6,ol l),(G,on o),(B + 1,on zn),(B,on n)])
 case first=>
  have M4d:=qh (M4.out.grown (grown_drew (grown_refl w4 none)))
  have HC2:=qh (HC.out _ _ M4d.out)
  obtain ⟨t,nn,HT,hagg,hsize,hld,hsz,hst⟩:=kk.named2
  have hsz2:=hsz l
  rw [HT.out.2]
  clear hld hsz
  refine wp_region_held_drew (S:=fun w'=>w'.cell? ⟨R.q,9,none⟩=some (.pointer (some ⟨R.c.b,0,none⟩))∧w'.cell? ⟨B,3,none⟩=some (.int .i64 n.b)) (by kernel_rfl) HC2.out (fun hHeld=>?_)
  refine tl 0 ?_ rfl ?_ ?_ (tl 1 ?_ rfl ?_ ?_ (tl 2 ?_ rfl ?_ ?_ (tl 3 ?_ rfl ?_ ?_ (tl 4 ?_ rfl ?_ ?_ (tl 5 ?_ rfl ?_ ?_ ?_)))))
  iterate 6 (rotate_left;(next=>(try simp only [lay]);((intro w0 hSw;(try dsimp only at hSw);obtain ⟨hs1,hs2⟩:=hSw;go_simp);try (with_reducible rfl)));next=>rfl)
  try simp only [lay]
  refine wpAnyH_ready (rs:=[6,10]) (by kernel_rfl) (by simp) ?_
  refine ac rfl (fun K hK=>?_) (ac rfl (fun K hK=>?_) AllReadyH.nil)
  ·go_simp
   go_at_call 32;((with_reducible refine (HF.out _ _ M4d.out).mono ?_);rintro e wb ⟨rfl,hmb⟩;have MB:=qh hmb;clear hmb)
   go_wp2_with fail
   refine hK.out _ _ (HC.out _ _ MB.out) (fun hHeld2=>?_)
   clear hK K
   try simp only [lay]
   refine tl 7 ?_ rfl ?_ ?_ (tl 8 ?_ rfl ?_ ?_ (tl 9 ?_ rfl ?_ ?_ ?_))
   iterate 3 (rotate_left;(next=>(try simp only [lay]);((intro w0 hSw;(try dsimp only at hSw);obtain ⟨hs1,hs2⟩:=hSw;go_simp);try (with_reducible rfl)));next=>rfl)
   try simp only [lay]
   have M6:=qh (MB.out.alloc (la zl) 50)
   have HC6:=qh (And.intro M6.out.rn.c2 (cellN M6.out (.tail _ (.tail _ (.tail _ (.head _)))) 3 _ rfl))
   have M7:Hid (Mid w ((wb.alloc (.cells (la zl) 50)).setCells wb.heap.size 0 (ln l)) R P k3 [(wb.heap.size,ol l),(G,on o),(B + 1,on zn),(B,on n)]):=qh (M6.out.put (i:=0) rfl (grown_setCells _ _ _ _) (filled (M6.out.hs _ (.head _)) (by rw [kk.ln_len];rfl)))
   have HC7:=qh (And.intro M7.out.rn.c2 (cellN M7.out (.tail _ (.tail _ (.tail _ (.head _)))) 3 _ rfl))
   have hst2:=hst wb.heap.size 0 l _ (there_new wb (la zl) 50 (by decide))
   rw [HZL.out] at HC6 M7 HC7 hst2
   refine rd 10 rfl fun K hK=>?_
   go_simp
   refine hK.out _ _ HC6.out (fun hHeld3=>?_)
   clear hK K
   try simp only [lay]
   refine rd 11 rfl fun K hK=>?_
   go_simp
   refine hK.out _ _ HC7.out (fun hHeld4=>?_)
   clear hK K
   try simp only [lay]
   refine tl 12 ?_ rfl ?_ ?_ ?_
   (rotate_left;(next=>((intro w0 hSw;(try dsimp only at hSw);obtain ⟨hs1,hs2⟩:=hSw;go_simp);try (with_reducible rfl)));next=>rfl)
   try simp only [lay]
   refine wpAnyH_done (by kernel_rfl) ?_ _
   go_wp2_with fail
   go_meet
   exact ⟨_,⟨rfl,rfl⟩,M7.out⟩
  ·have M6:=qh ((M4.out.alloc (la zl) 50).grown (grown_drew (grown_refl _ none)))
   have HC6:=qh (And.intro M6.out.rn.c2 (cellN M6.out (.tail _ (.tail _ (.tail _ (.head _)))) 3 _ rfl))
   rw [HZL.out] at HC6 M6
   go_simp
   refine hK.out _ _ HC6.out (fun hHeld2=>?_)
   clear hK K
   try simp only [lay]
   refine rd 6 rfl fun K hK=>?_
   go_simp
   go_at_call 32;((with_reducible refine (HF.out _ _ M6.out).mono ?_);rintro e wb ⟨rfl,hmb⟩;have MB:=qh hmb;clear hmb)
   go_wp2_with fail
   refine hK.out _ _ (HC5.out _ _ _ MB.out) (fun hHeld3=>?_)
   clear hK K
   try simp only [lay]
   refine tl 7 ?_ rfl ?_ ?_ (tl 8 ?_ rfl ?_ ?_ (tl 9 ?_ rfl ?_ ?_ ?_))
   iterate 3 (rotate_left;(next=>(try simp only [lay]);((intro w0 hSw;(try dsimp only at hSw);obtain ⟨hs1,hs2⟩:=hSw;go_simp);try (with_reducible rfl)));next=>rfl)
   try simp only [lay]
   have M7:Hid (Mid w (wb.setCells w4.heap.size 0 (ln l)) R P k3 [(w4.heap.size,ol l),(G,on o),(B + 1,on zn),(B,on n)]):=qh (MB.out.put (i:=0) rfl (grown_setCells _ _ _ _) (filled (MB.out.hs _ (.head _)) (by rw [kk.ln_len];rfl)))
   have HC7:=qh (And.intro M7.out.rn.c2 (cellN M7.out (.tail _ (.tail _ (.tail _ (.head _)))) 3 _ rfl))
   have hst2:=hst w4.heap.size 0 l wb (there_at (MB.out.hs _ (.head _)) (by decide))
   refine rd 11 rfl fun K hK=>?_
   go_simp
   refine hK.out _ _ HC7.out (fun hHeld4=>?_)
   clear hK K
   try simp only [lay]
   refine tl 12 ?_ rfl ?_ ?_ ?_
   (rotate_left;(next=>((intro w0 hSw;(try dsimp only at hSw);obtain ⟨hs1,hs2⟩:=hSw;go_simp);try (with_reducible rfl)));next=>rfl)
   try simp only [lay]
   refine wpAnyH_done (by kernel_rfl) ?_ _
   go_wp2_with fail
   go_meet
   exact ⟨_,⟨rfl,rfl⟩,M7.out⟩
 case rest=>
  obtain ⟨G6,⟨rfl,rfl⟩,hm5⟩:=hcut
  have M5:=qh hm5
  clear hm5 M4 HF HC HC5
  go_upto_region 5 with fail
  go_cut [8,9,10] from 56 to 66 (fun s8 s9 s10 wx=>∃ G8,(s8 = .pointer (some ⟨G8,0,none⟩)∧s9 = .bool lv∧s10 = .bool hb)∧Mid w wx R P k3 [(G8,od dd),(G6,ol l),(G,on o),(B + 1,on zn),(B,on n)])
  case first=>
   have M5d:=qh (M5.out.grown (grown_drew (grown_refl _ none)))
   have HC2:=qh (HCb.out _ _ _ M5d.out)
   obtain ⟨t,nn,HT,hagg,hsize,hsz,hst⟩:=namedB
   have hsz2:=hsz dd hdd
   rw [HT.out]
   clear hsz
   refine wp_region_held_drew (S:=fun w'=>w'.cell? ⟨R.q,10,none⟩=some (.pointer (some ⟨R.br,0,none⟩))∧w'.cell? ⟨B,3,none⟩=some (.int .i64 n.b)) (by kernel_rfl) HC2.out (fun hHeld=>?_)
   refine tl 0 ?_ rfl ?_ ?_ (tl 1 ?_ rfl ?_ ?_ (tl 2 ?_ rfl ?_ ?_ (tl 3 ?_ rfl ?_ ?_ (tl 4 ?_ rfl ?_ ?_ (tl 5 ?_ rfl ?_ ?_ ?_)))))
   iterate 6 (rotate_left;(next=>(try simp only [lay]);((intro w0 hSw;(try dsimp only at hSw);obtain ⟨hs1,hs2⟩:=hSw;go_simp);try (with_reducible rfl)));next=>rfl)
   try simp only [lay]
   refine wpAnyH_ready (rs:=[6,11]) (by kernel_rfl) (by simp) ?_
   refine ac rfl (fun K hK=>?_) (ac rfl (fun K hK=>?_) AllReadyH.nil)
   ·go_simp
    go_at_call 33;((with_reducible refine (HFb.out _ _ M5d.out).mono ?_);rintro e wb ⟨rfl,hmb⟩;have MB:=qh hmb;clear hmb)
    go_wp2_with fail
    refine hK.out _ _ (HCb.out _ _ _ MB.out) (fun hHeld2=>?_)
    clear hK K
    try simp only [lay]
    refine tl 7 ?_ rfl ?_ ?_ (tl 8 ?_ rfl ?_ ?_ (tl 9 ?_ rfl ?_ ?_ (tl 10 ?_ rfl ?_ ?_ ?_)))
    iterate 4 (rotate_left;(next=>(try simp only [lay]);((intro w0 hSw;(try dsimp only at hSw);obtain ⟨hs1,hs2⟩:=hSw;go_simp);try (with_reducible rfl)));next=>rfl)
    try simp only [lay]
    have M6:=qh (MB.out.alloc (row zd) 35)
    have HC6:=qh (And.intro M6.out.rn.c3 (cellN M6.out (.tail _ (.tail _ (.tail _ (.tail _ (.head _))))) 3 _ rfl))
    have M7:Hid (Mid w ((wb.alloc (.cells (row zd) 35)).setCells wb.heap.size 0 (dd.map U)) R P k3 [(wb.heap.size,od dd),(G6,ol l),(G,on o),(B + 1,on zn),(B,on n)]):=qh (M6.out.put (i:=0) rfl (grown_setCells _ _ _ _) (filled (M6.out.hs _ (.head _)) (by first | (simp [hdd];done) | (simp [hdd];rfl))))
    have HC7:=qh (And.intro M7.out.rn.c3 (cellN M7.out (.tail _ (.tail _ (.tail _ (.tail _ (.head _))))) 3 _ rfl))
    have hst2:=hst wb.heap.size 0 dd hdd _ (there_new wb (row zd) 35 (by decide))
    rw [HZB.out] at HC6 M7 HC7 hst2
    refine rd 11 rfl fun K hK=>?_
    go_simp
    refine hK.out _ _ HC6.out (fun hHeld3=>?_)
    clear hK K
    try simp only [lay]
    refine rd 12 rfl fun K hK=>?_
    go_simp
    refine hK.out _ _ HC7.out (fun hHeld4=>?_)
    clear hK K
    try simp only [lay]
    refine tl 13 ?_ rfl ?_ ?_ (tl 14 ?_ rfl ?_ ?_ ?_)
    iterate 2 (rotate_left;(next=>(try simp only [lay]);((intro w0 hSw;(try dsimp only at hSw);obtain ⟨hs1,hs2⟩:=hSw;go_simp);try (with_reducible rfl)));next=>rfl)
    try simp only [lay]
    refine wpAnyH_done (by kernel_rfl) ?_ _
    go_wp2_with fail
    go_meet
    exact ⟨_,⟨rfl,rfl,rfl⟩,M7.out⟩
   ·have M6:=qh ((M5.out.alloc (row zd) 35).grown (grown_drew (grown_refl _ none)))
    have HC6:=qh (And.intro M6.out.rn.c3 (cellN M6.out (.tail _ (.tail _ (.tail _ (.tail _ (.head _))))) 3 _ rfl))
    rw [HZB.out] at HC6 M6
    go_simp
    refine hK.out _ _ HC6.out (fun hHeld2=>?_)
    clear hK K
    try simp only [lay]
    refine rd 6 rfl fun K hK=>?_
    go_simp
    go_at_call 33;((with_reducible refine (HFb.out _ _ M6.out).mono ?_);rintro e wb ⟨rfl,hmb⟩;have MB:=qh hmb;clear hmb)
    go_wp2_with fail
    refine hK.out _ _ (HCb5.out _ _ _ _ MB.out) (fun hHeld3=>?_)
    clear hK K
    try simp only [lay]
    refine tl 7 ?_ rfl ?_ ?_ (tl 8 ?_ rfl ?_ ?_ (tl 9 ?_ rfl ?_ ?_ (tl 10 ?_ rfl ?_ ?_ ?_)))
    iterate 4 (rotate_left;(next=>(try simp only [lay]);((intro w0 hSw;(try dsimp only at hSw);obtain ⟨hs1,hs2⟩:=hSw;go_simp);try (with_reducible rfl)));next=>rfl)
    try simp only [lay]
    have M7:Hid (Mid w (wb.setCells wc.heap.size 0 (dd.map U)) R P k3 [(wc.heap.size,od dd),(G6,ol l),(G,on o),(B + 1,on zn),(B,on n)]):=qh (MB.out.put (i:=0) rfl (grown_setCells _ _ _ _) (filled (MB.out.hs _ (.head _)) (by first | (simp [hdd];done) | (simp [hdd];rfl))))
    have HC7:=qh (And.intro M7.out.rn.c3 (cellN M7.out (.tail _ (.tail _ (.tail _ (.tail _ (.head _))))) 3 _ rfl))
    have hst2:=hst wc.heap.size 0 dd hdd wb (there_at (MB.out.hs _ (.head _)) (by decide))
    refine rd 12 rfl fun K hK=>?_
    go_simp
    refine hK.out _ _ HC7.out (fun hHeld4=>?_)
    clear hK K
    try simp only [lay]
    refine tl 13 ?_ rfl ?_ ?_ (tl 14 ?_ rfl ?_ ?_ ?_)
    iterate 2 (rotate_left;(next=>(try simp only [lay]);((intro w0 hSw;(try dsimp only at hSw);obtain ⟨hs1,hs2⟩:=hSw;go_simp);try (with_reducible rfl)));next=>rfl)
    try simp only [lay]
    refine wpAnyH_done (by kernel_rfl) ?_ _
    go_wp2_with fail
    go_meet
    exact ⟨_,⟨rfl,rfl,rfl⟩,M7.out⟩
  case rest=>
   obtain ⟨G8,⟨rfl,rfl,rfl⟩,hm6⟩:=hcut
   have M6:=qh hm6
   clear hm6 M5 HFb HCb HCb5
   obtain ⟨w6,h6⟩:∃ x,x=wc:=⟨_,rfl⟩
   subst h6
   go_upto_region 6 with fail
   go_cut [72] from 67 to 72 (fun s72 wx=>s72 = .bool hs∧wx=w6)
   case first=>
    have q:=cellL M6.out (.tail _ (.head _)) 1 _ rfl
    cases f
    ·obtain rfl:=(HH.out.1 rfl)
     go_wp2_with fail
     go_meet
     exact ⟨rfl,rfl⟩
    ·have hd:=HH.out.2 rfl
     go_wp2_with fail
     go_meet
     exact ⟨by rw [← hd],rfl⟩
   case rest=>
    obtain ⟨rfl,rfl⟩:=hcut
    obtain ⟨w6,h6⟩:∃ x,x=wc:=⟨_,rfl⟩
    subst h6
    go_upto_if 72 with fail
    go_cut [] from 73 to 87 (fun wx=>Mid w wx R P k4 [(G8,od dd),(G6,ol l),(G,on ak),(B + 1,on zn),(B,on n)])
    case first=>
     have q6:=cellN M6.out (.tail _ (.tail _ (.head _))) 6 _ rfl
     have f6:w6.frozen? ⟨G,6,none⟩=false:=frozen_of_row _ _ _ _ _ (M6.out.hs _ (.tail _ (.tail _ (.head _))))
     have M7:Hid (Mid w (w6.setCell ⟨G,6,none⟩ (.bool true)) R P k3 [(G8,od dd),(G6,ol l),(G,on { o with h:=true }),(B + 1,on zn),(B,on n)]):=qh (M6.out.put (i:=2) rfl (kk.grown_setCell w6 G 6 _) (put_h (M6.out.hs _ (.tail _ (.tail _ (.head _))))))
     have ht8:(w6.setCell ⟨G,6,none⟩ (.bool true)).there G 8 16:=there_mid M7.out (.tail _ (.tail _ (.head _)))
     have hr6:(w6.setCell ⟨G,6,none⟩ (.bool true)).rangeAt G6 2 (l.d.map U):=range_d M7.out (.tail _ (.head _))
     have hr8:(w6.setCell ⟨G,6,none⟩ (.bool true)).rangeAt G8 0 (dd.map U):=range_b M7.out (.head _)
     cases hs
     ·cases lv
      ·have HK4:=HKN.out rfl rfl
       go_wp2_with fail
       go_meet
       rw [HK4.1,HK4.2]
       exact M6.out
      ·have HK4:=HKF.out rfl rfl
       have M8:=qh (M6.out.data (i:=2) rfl dd hdd)
       obtain ⟨w8,hw8⟩:∃ w8,(w6.setCell ⟨G,6,none⟩ (.bool true)).setCells G 8 (dd.map U)=w8:=⟨_,rfl⟩
       rw [hw8] at M8
       have q10:=M8.out.rn.c3
       have q3:=cellN M8.out (.tail _ (.tail _ (.tail _ (.tail _ (.head _))))) 3 _ rfl
       have M9:=qh (M8.out.grown (grown_drew (grown_refl _ none)))
       have HWW:=qh hw8
       clear hw8
       go_upto_region 12 with (first
        | ((with_reducible refine load_b dd hdd 8 G8 0 ?_ hr8 ?_);((rfl)))
        | ((with_reducible refine store_b dd hdd 80 79 G 8 ?_ ?_ ht8 ?_);((rfl));((rfl))))
       rw [HWW.out]
       go_still_tail 6,(by kernel_rfl)
       change wpList _ _ _ _ _ w8.drew
       go_wp2_with (first
        | (go_at_call 157;((with_reducible refine (HKI.out _ _ M9.out).mono ?_);rintro e w9 ⟨⟨v,rfl⟩,hm9⟩;have M10:=qh hm9;clear hm9)))
       go_meet
       rw [HK4.1,HK4.2]
       exact M10.out
     ·have M8:=qh (M6.out.data (i:=2) rfl l.d l.h)
      have HK4:=HKT.out rfl
      go_wp2_with (first
       | ((with_reducible refine load_b l.d l.h 74 G6 2 ?_ hr6 ?_);((rfl)))
       | ((with_reducible refine store_b l.d l.h 76 75 G 8 ?_ ?_ ht8 ?_);((rfl));((rfl))))
      go_meet
      rw [HK4.1,HK4.2]
      exact M8.out
    case rest=>
     have N6:=qh hcut
     clear hcut M6
     obtain ⟨w7,h7⟩:∃ x,x=wc:=⟨_,rfl⟩
     subst h7
     have q0:=cellN N6.out (.tail _ (.tail _ (.tail _ (.tail _ (.head _))))) 0 _ rfl
     by_cases hk5:n.k=5
     ·have HK5:=qh (HK5T.out hk5)
      have q0':w7.cell? ⟨B,0,none⟩=some (.int .u8 5):=by rw [q0];show some (Value.int .u8 n.k)=_;rw [hk5]
      have q9:=N6.out.rn.c2
      have q3:=cellN N6.out (.tail _ (.tail _ (.tail _ (.tail _ (.head _))))) 3 _ rfl
      have N7:=qh (N6.out.grown (grown_drew (grown_refl _ none)))
      have HKD:=qh hk5
      clear q0 hk5
      go_upto_region 14 with fail
      go_still_tail 6,(by kernel_rfl)
      change wpList _ _ _ _ _ w7.drew
      go_wp2_with (first
       | (go_at_call 110;((with_reducible refine (HDR.out _ _ N7.out).mono ?_);rintro e w9 ⟨⟨v,rfl⟩,hm9⟩;have M10:=qh hm9;have p0:w9.cell? ⟨B,0,none⟩=some (.int .u8 5):=(cellN hm9 (.tail _ (.tail _ (.tail _ (.tail _ (.head _))))) 0 _ rfl).trans (by show some (Value.int .u8 n.k)=_;rw [HKD.out]);have r5:=tt.range_of (hm9.hs _ (.tail _ (.tail _ (.head _))));have b1:=hm9.hs _ (.tail _ (.tail _ (.tail _ (.head _))));clear hm9))
       | ((with_reducible refine tt.load_nt ak 5 G ?_ r5 ?_);((rfl)))
       | ((with_reducible refine tt.store_any ak (na zn) 4 111 (B + 1) ?_ ?_ b1 ?_ ?_);((rfl));((rfl));((rfl))))
      refine ret_note rfl (x:=ak) (g:=B + 1) rfl (by rw [setRow_heap _ _ _ _ _ _ b1]) ?_
      have M11:=M10.out.put (i:=3) rfl (grown_row (grown_refl _ _) (B + 1) (na ak)) (setRow_heap _ _ _ _ _ _ b1)
      refine ⟨by rw [HFIN.out.2],?_,M11.kp⟩
      have:=M11.rn
      rw [← HK5.out,HFIN.out.1] at this
      exact this
     ·have hk4:n.k=4:=HK.out.resolve_right hk5
      have HKD:=qh hk4
      have q0':w7.cell? ⟨B,0,none⟩=some (.int .u8 4):=by rw [q0];show some (Value.int .u8 n.k)=_;rw [hk4]
      have q9:=N6.out.rn.c2
      have q3:=cellN N6.out (.tail _ (.tail _ (.tail _ (.tail _ (.head _))))) 3 _ rfl
      have N7:=qh (N6.out.grown (grown_drew (grown_refl _ none)))
      have HK4:=qh (HK4T.out hk5)
      clear q0 hk5 hk4
      cases f
      ·have HK5:=qh (HK4.out.1 rfl)
       have r5:=tt.range_of (N6.out.hs _ (.tail _ (.tail _ (.head _))))
       have b1:=N6.out.hs _ (.tail _ (.tail _ (.tail _ (.head _))))
       go_wp2_with (first
        | ((with_reducible refine tt.load_nt ak 5 G ?_ r5 ?_);((rfl)))
        | ((with_reducible refine tt.store_any ak (na zn) 4 111 (B + 1) ?_ ?_ b1 ?_ ?_);((rfl));((rfl));((rfl))))
       refine ret_note rfl (x:=ak) (g:=B + 1) rfl (by rw [setRow_heap _ _ _ _ _ _ b1]) ?_
       have M11:=N6.out.put (i:=3) rfl (grown_row (grown_refl _ _) (B + 1) (na ak)) (setRow_heap _ _ _ _ _ _ b1)
       refine ⟨by rw [HFIN.out.2],?_,M11.kp⟩
       have:=M11.rn
       rw [← HK5.out,HFIN.out.1] at this
       exact this
      ·have HK5:=qh (HK4.out.2 rfl)
       go_upto_region 16 with fail
       go_still_tail 6,(by kernel_rfl)
       change wpList _ _ _ _ _ w7.drew
       go_wp2_with (first
        | (go_at_call 158;((with_reducible refine (HTU.out _ _ N7.out).mono ?_);rintro e w9 ⟨⟨v,rfl⟩,hm9⟩;have M10:=qh hm9;have r5:=tt.range_of (hm9.hs _ (.tail _ (.tail _ (.head _))));have b1:=hm9.hs _ (.tail _ (.tail _ (.tail _ (.head _))));clear hm9))
        | ((with_reducible refine tt.load_nt ak 5 G ?_ r5 ?_);((rfl)))
        | ((with_reducible refine tt.store_any ak (na zn) 4 111 (B + 1) ?_ ?_ b1 ?_ ?_);((rfl));((rfl));((rfl))))
       refine ret_note rfl (x:=ak) (g:=B + 1) rfl (by rw [setRow_heap _ _ _ _ _ _ b1]) ?_
       have M11:=M10.out.put (i:=3) rfl (grown_row (grown_refl _ _) (B + 1) (na ak)) (setRow_heap _ _ _ _ _ _ b1)
       refine ⟨by rw [HFIN.out.2],?_,M11.kp⟩
       have:=M11.rn
       rw [← HK5.out,HFIN.out.1] at this
       exact this
end
end Go.Proofs.YtcoimipgilkmbaaGreatDoor.nr
