/-
 A map keyed by ints, as a function: what a look-up, a store, a delete, len, an assignment in two steps make of it, and their laws. No condition but what each theorem names.
-/
import Derived.Test.YtcoimipgilkmbaaGreatDoorTl
import Derived.Test.YtcoimipgilkmbaaGreatDoorSl
import Derived.MapKept
import Derived.Carry
import Derived.OwnWalkIn
import Derived.TacticsInMore
namespace Go.Proofs.YtcoimipgilkmbaaGreatDoor.tt
set_option linter.unusedVariables false
set_option linter.unusedSimpArgs false
set_option maxRecDepth 1000000
set_option maxHeartbeats 16000000
open Go Go.RowKit Go.MapKept
def ik (k:Int):Value:= .int .i64 k
structure MapIs (es:List MapEntry) (f:Int→Option Value):Prop where
 keys:∀ x ∈ es,∃ k,x.key=ik k
 at_:∀ k v,f k=some v ↔ ∃ e ∈ es,e.key=ik k∧e.val=v
def MapAt (w:World) (b:Nat) (f:Int→Option Value):Prop:=∃ es clock,w.heap[b]?=some (.map es clock)∧Stamped es clock∧MapIs es.toList f
def mput (f:Int→Option Value) (k:Int) (v:Value):Int→Option Value:=fun x=>if x=k then some v else f x
def mdel (f:Int→Option Value) (k:Int):Int→Option Value:=fun x=>if x=k then none else f x
theorem ik_inj {a b:Int} (h:ik a=ik b):a=b:=by simpa [ik] using h
theorem ik_key (k:Int):IsKey (.int .i64) (ik k):=rfl
theorem MapIs.isKey {es:List MapEntry} {f:Int→Option Value} (h:MapIs es f):∀ x ∈ es,IsKey (.int .i64) x.key:=fun x hx=>by
 obtain ⟨k,hk⟩:=h.keys x hx
 rw [hk];exact ik_key k
theorem MapAt.lt {w:World} {b:Nat} {f:Int→Option Value} (h:MapAt w b f):b < w.heap.size:=by
 obtain ⟨es,c,hb,_⟩:=h;exact lt_of hb
theorem MapAt.same {w w':World} {b:Nat} {f:Int→Option Value} (h:MapAt w b f) (hb:w'.heap[b]?=w.heap[b]?):MapAt w' b f:=by
 obtain ⟨es,c,h1,h2⟩:=h;exact ⟨es,c,hb.trans h1,h2⟩
theorem MapAt.new (w:World):MapAt (w.alloc (.map #[] 0)) w.heap.size (fun _=>none):=by
 refine ⟨#[],0,(heap_alloc w _).1,stamped_empty 0,⟨fun x hx=>by simp at hx,fun k v=>?_⟩⟩
 simp
theorem nodup_at {es:List MapEntry} (h:(es.map (·.key)).Nodup) {i j:Nat} {x y:MapEntry} (hx:es[i]?=some x) (hy:es[j]?=some y) (e:x.key=y.key):i=j:=by
 refine (List.getElem?_inj (l:=es.map (·.key)) (by rw [List.length_map];exact (List.getElem?_eq_some_iff.1 hx).1) h).1 ?_
 rw [List.getElem?_map,List.getElem?_map,hx,hy];simp [e]
section
variable {P:Program} {w:World} {b:Nat} {f:Int→Option Value} {mt e:TypeId} (hm:P.underlying mt=some (.map 3 e)) (h3:P.underlying 3=some (.int .i64))
include hm h3
theorem run_lookup_map (h:MapAt w b f) {z:Value} (hz:(zeroValue e).run P w = .ok z w) (k:Int):(Instr.lookup mt (.map (some b)) (.int .i64 k) false).run P w = .ok ((f k).getD z) w:=by
 obtain ⟨es,c,hb,hs,hi⟩:=h
 rcases Go.MapKept.findNow_spec (ik_key k) es.toList 0 hi.isKey with ⟨h1,h2⟩ | ⟨j,e',h1,h2,h4⟩
 ·have hf:f k=none:=by
   cases hf:f k with
   | none=>rfl
   | some v=>obtain ⟨x,hx,hk,_⟩:=(hi.at_ k v).1 hf;exact absurd hk (h2 x hx)
  have hq:=Go.MapKept.run_findKey (w:=w) h3 h1
  have hc:∀ em,(Instr.checkKey em 10000 3 (ik k)).run P w = .ok () w:=fun em=>Go.MapKept.run_checkKey h3 (ik_key k) em 9999
  unfold ik at hq hc
  simp [Instr.lookup,run_underlying hm,Go.MapKept.run_getObj_map hb,hc,hq,hz,Result.andThen,hf]
 ·have hf:f k=some e'.val:=(hi.at_ k _).2 ⟨e',List.mem_of_getElem? h2,h4,rfl⟩
  have hq:=Go.MapKept.run_findKey (w:=w) h3 h1
  have hc:∀ em,(Instr.checkKey em 10000 3 (ik k)).run P w = .ok () w:=fun em=>Go.MapKept.run_checkKey h3 (ik_key k) em 9999
  unfold ik at hq hc
  simp [Instr.lookup,run_underlying hm,Go.MapKept.run_getObj_map hb,hc,hq,Result.andThen,hf]
theorem run_update_map (h:MapAt w b f) (k:Int) (v:Value):∃ w',(Instr.mapUpdate mt (.map (some b)) (.int .i64 k) v).run P w = .ok () w'∧MapAt w' b (mput f k v)∧w.grownBy w' (some b):=by
 obtain ⟨es,c,hb,hs,hi⟩:=h
 have hgr:∀ o,w.grownBy { w with heap:=w.heap.setIfInBounds b o } (some b):=fun o=>⟨rfl,rfl,rfl,by simp,fun i _ hn=>(Go.MapKept.heap_set hb).2 i (fun e=>hn (by rw [e]))⟩
 rcases Go.MapKept.findNow_spec (ik_key k) es.toList 0 hi.isKey with ⟨h1,h2⟩ | ⟨j,e',h1,h2,h4⟩
 ·have hq:=Go.MapKept.run_findKey (w:=w) h3 h1
  have hc:∀ em,(Instr.checkKey em 10000 3 (ik k)).run P w = .ok () w:=fun em=>Go.MapKept.run_checkKey h3 (ik_key k) em 9999
  unfold ik at hq hc
  refine ⟨_,by simp [ik,Instr.mapUpdate,run_underlying hm,Go.MapKept.run_getObj_map hb,hc,hq,Go.MapKept.run_setObj_map _ hb,Result.andThen],⟨_,_,(Go.MapKept.heap_set hb).1,Go.MapKept.stamped_push hs (key:=ik k) (val:=v) h2,?_,fun x u=>?_⟩,hgr _⟩
  ·intro x hx
   simp only [Array.toList_push,List.mem_append,List.mem_singleton] at hx
   rcases hx with hx | rfl
   ·exact hi.keys x hx
   ·exact ⟨k,rfl⟩
  ·simp only [Array.toList_push,List.mem_append,List.mem_singleton]
   unfold mput
   by_cases hx:x=k
   ·subst hx
    rw [if_pos rfl]
    constructor
    ·intro hu;cases hu;exact ⟨_,.inr rfl,rfl,rfl⟩
    ·rintro ⟨y,hy | rfl,hy1,hy2⟩
     ·exact absurd hy1 (h2 y hy)
     ·simp at hy2;rw [hy2]
   ·rw [if_neg hx,hi.at_ x u]
    constructor
    ·rintro ⟨y,hy,h⟩;exact ⟨y,.inl hy,h⟩
    ·rintro ⟨y,hy | rfl,hy1,hy2⟩
     ·exact ⟨y,hy,hy1,hy2⟩
     ·exact absurd (ik_inj hy1).symm hx
 ·have hj:es[j]?=some e':=by simpa using h2
  have hq:=Go.MapKept.run_findKey (w:=w) h3 h1
  have hc:∀ em,(Instr.checkKey em 10000 3 (ik k)).run P w = .ok () w:=fun em=>Go.MapKept.run_checkKey h3 (ik_key k) em 9999
  have hks:=Go.MapKept.run_keyThatStays (P:=P) (w:=w) (ik_key k)
  have hkey:∀ e'',es[j]?=some e''→({ e'' with key:=ik k,val:=v }:MapEntry).key=e''.key:=fun e'' he=>by rw [hj] at he;cases he;exact h4.symm
  have hst:=Go.MapKept.stamped_modify hs j (fun e=>{ e with key:=ik k,val:=v }) (fun _ _=>rfl) (fun e'' _ he=>hkey e'' he)
  have h4':e'.key = .int .i64 k:=h4
  unfold ik at hq hc hks
  refine ⟨_,by simp [ik,Instr.mapUpdate,run_underlying hm,Go.MapKept.run_getObj_map hb,hc,hq,hj,h4',hks,Go.MapKept.run_setObj_map _ hb,Result.andThen],⟨_,_,(Go.MapKept.heap_set hb).1,hst,?_,fun x u=>?_⟩,hgr _⟩
  ·intro x hx
   obtain ⟨i,hx⟩:=List.getElem?_of_mem hx
   rw [Array.getElem?_toList,Array.getElem?_modify] at hx
   split at hx
   ·rw [Option.map_eq_some_iff] at hx
    obtain ⟨y,hy,rfl⟩:=hx
    exact ⟨k,rfl⟩
   ·exact hi.keys x (by simpa using Array.mem_of_getElem? hx)
  ·unfold mput
   by_cases hx:x=k
   ·subst hx
    rw [if_pos rfl]
    constructor
    ·intro hu
     cases hu
     refine ⟨{ e' with key:=ik x,val:=v },List.mem_of_getElem? (i:=j) ?_,rfl,rfl⟩
     rw [Array.getElem?_toList,Array.getElem?_modify,if_pos rfl,hj];rfl
    ·rintro ⟨y,hy,hy1,hy2⟩
     obtain ⟨i,hy⟩:=List.getElem?_of_mem hy
     rw [Array.getElem?_toList,Array.getElem?_modify] at hy
     split at hy
     ·rw [Option.map_eq_some_iff] at hy
      obtain ⟨z,_,rfl⟩:=hy
      rw [← hy2]
     ·have:=nodup_at hs.2.2 (i:=i) (j:=j) (by rw [Array.getElem?_toList];exact hy) h2 (hy1.trans h4.symm)
      omega
   ·rw [if_neg hx,hi.at_ x u]
    constructor
    ·rintro ⟨y,hy,hy1,hy2⟩
     obtain ⟨i,hy⟩:=List.getElem?_of_mem hy
     have hij:j ≠ i:=fun e=>by
      subst e
      rw [h2] at hy;cases hy
      exact hx (ik_inj (hy1.symm.trans h4))
     refine ⟨y,List.mem_of_getElem? (i:=i) ?_,hy1,hy2⟩
     rw [Array.getElem?_toList,Array.getElem?_modify,if_neg hij]
     simpa using hy
    ·rintro ⟨y,hy,hy1,hy2⟩
     obtain ⟨i,hy⟩:=List.getElem?_of_mem hy
     rw [Array.getElem?_toList,Array.getElem?_modify] at hy
     split at hy
     ·rw [Option.map_eq_some_iff] at hy
      obtain ⟨z,_,rfl⟩:=hy
      exact absurd (ik_inj hy1).symm hx
     ·exact ⟨y,by simpa using Array.mem_of_getElem? hy,hy1,hy2⟩
end
section
variable {F:Fence} {n:Nat} {P:Program} {w:World} {ops:Array Oper} {rest:List Oper} {a:Act} {Q:Exit→Act→World→Prop} {dst:Option Tmp} {ty:TypeId} {pos:String} {after:Array Edge}
theorem map_store (mt e:TypeId) (hm:P.underlying mt=some (.map 3 e)) (h3:P.underlying 3=some (.int .i64)) (m x y:Operand) (b:Nat) (f:Int→Option Value) (k:Int) (v:Value) (ha:a.eval m = .map (some b)) (hx:a.eval x = .int .i64 k) (hy:a.eval y=v) (hM:MapAt w b f)
  (h:∀ w',MapAt w' b (mput f k v)→w.grownBy w' (some b)→wpList P ops Q rest (a.put dst undef) w'):wpList P ops Q (⟨dst,.mapUpdate mt m x y,ty,pos,after,none⟩ :: rest) a w:=by
 refine wpList_plain rfl fun K' hK'=>?_
 obtain ⟨w',hrun,r1,r2⟩:=run_update_map hm h3 hM k v
 unfold Oper.wp
 simp only [execOp,ha,hx,hy,Sem.run_bind,hrun,Result.andThen_ok,Sem.run_pure]
 exact hK' _ _ (h w' r1 r2)
end
theorem istamp_at {es:Array MapEntry} {c:Nat} (hs:Stamped es c) {j:Nat} {e0:MapEntry} (h:es.toList[j]?=some e0):es.findIdx? (fun e=>((e.born:Nat):Int) == ((e0.born:Nat):Int))=some j:=by
 obtain ⟨xs⟩:=es
 rw [List.findIdx?_toArray]
 rw [List.findIdx?_eq_some_iff_getElem]
 obtain ⟨hlt,he⟩:=List.getElem?_eq_some_iff.1 h
 refine ⟨hlt,by simp [he],fun i hi=>?_⟩
 simp only [beq_iff_eq,Int.natCast_inj]
 intro e
 have hn:=hs.2.1
 have hil:i < xs.length:=Nat.lt_trans hi hlt
 have:=(List.getElem?_inj (l:=xs.map (·.born)) (by rw [List.length_map];exact hil) hn (j:=j)).1 (by
  rw [List.getElem?_map,List.getElem?_map,List.getElem?_eq_getElem hlt,List.getElem?_eq_getElem hil]
  simp only [Option.map_some,Option.some.injEq]
  rw [e,← he])
 omega
theorem MapIs.set {es:Array MapEntry} {c:Nat} {f:Int→Option Value} (hi:MapIs es.toList f) {k:Int} (v:Value) {j:Nat} {e0:MapEntry} (hs:Stamped es c) (h2:es.toList[j]?=some e0) (h3:e0.key=ik k):MapIs (es.modify j (fun e=>{ e with val:=v })).toList (mput f k v):=by
 have hget:∀ i,(es.modify j (fun e=>{ e with val:=v })).toList[i]?=if j=i then (es.toList[i]?).map (fun e=>{ e with val:=v }) else es.toList[i]?:=fun i=>by
  rw [Array.getElem?_toList,Array.getElem?_modify,Array.getElem?_toList]
 refine ⟨fun x hx=>?_,fun x u=>?_⟩
 ·obtain ⟨i,hx⟩:=List.getElem?_of_mem hx
  rw [hget] at hx
  split at hx
  ·rw [Option.map_eq_some_iff] at hx
   obtain ⟨y,hy,rfl⟩:=hx
   exact hi.keys y (List.mem_of_getElem? hy)
  ·exact hi.keys x (List.mem_of_getElem? hx)
 ·unfold mput
  by_cases hx:x=k
  ·subst hx
   rw [if_pos rfl]
   constructor
   ·intro hu;cases hu
    exact ⟨{ e0 with val:=v },List.mem_of_getElem? (i:=j) (by rw [hget,if_pos rfl,h2];rfl),h3,rfl⟩
   ·rintro ⟨y,hy,hy1,hy2⟩
    obtain ⟨i,hy⟩:=List.getElem?_of_mem hy
    rw [hget] at hy
    split at hy
    ·rw [Option.map_eq_some_iff] at hy
     obtain ⟨z,_,rfl⟩:=hy
     rw [← hy2]
    ·rename_i hij
     exact absurd (nodup_at hs.2.2 (i:=i) (j:=j) hy h2 (hy1.trans h3.symm)).symm hij
  ·rw [if_neg hx,hi.at_ x u]
   constructor
   ·rintro ⟨y,hy,hy1,hy2⟩
    obtain ⟨i,hy⟩:=List.getElem?_of_mem hy
    have hij:j ≠ i:=fun e=>by
     subst e
     rw [h2] at hy;cases hy
     exact hx (ik_inj (hy1.symm.trans h3))
    exact ⟨y,List.mem_of_getElem? (i:=i) (by rw [hget,if_neg hij];exact hy),hy1,hy2⟩
   ·rintro ⟨y,hy,hy1,hy2⟩
    obtain ⟨i,hy⟩:=List.getElem?_of_mem hy
    rw [hget] at hy
    split at hy
    ·rw [Option.map_eq_some_iff] at hy
     obtain ⟨z,hz,rfl⟩:=hy
     rename_i hij
     subst hij
     rw [h2] at hz;cases hz
     exact absurd (ik_inj (hy1.symm.trans h3)) hx
    ·exact ⟨y,List.mem_of_getElem? hy,hy1,hy2⟩
theorem grown_mapI {w:World} {b:Nat} {o':Obj} (hb:w.heap[b]?=some o') (o:Obj):w.grownBy { w with heap:=w.heap.setIfInBounds b o } (some b):=
 ⟨rfl,rfl,rfl,by simp,fun i _ hn=>(heap_set hb).2 i (fun e=>hn (by rw [e]))⟩
end Go.Proofs.YtcoimipgilkmbaaGreatDoor.tt
