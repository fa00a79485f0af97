/-
 The model's '==' at the words of two lines. No condition.
 The model's '==' at two lines; the cache's answers as functions. No condition.
 The cache's answers as functions of what it holds; the contracts taken together. Condition: the table of bounds lies in its variable as the program's text has it.
 What is so of every cache, whatever is done with it: a line stands in its block's set, and in one way alone. No condition.
 What a cache finds, as a function of the block, behind each call; whether there is room for a block; a cache's shape. No condition but what each theorem names.
-/
import Derived.Test.YtcoimipgilkmbaaGreatDoorTl
import Derived.Test.YtcoimipgilkmbaaGreatDoorCay
import Derived.Laws.StructEq
namespace Go.Proofs.YtcoimipgilkmbaaGreatDoor.kk
set_option linter.unusedVariables false
set_option linter.unusedSimpArgs false
set_option maxRecDepth 1000000
set_option maxHeartbeats 16000000
open Go Go.ChangeShapes Go.WideShapes Go.ChangeAt Go.RowKit Go.Shelf
open Go.Proofs.YtcoimipgilkmbaaGreatDoor.tt (hb U row)
def live (l:Ln):Bool:=l.s != 0
theorem all_range_eqU:∀ (xs ys:List Int),xs.length=ys.length→((List.range xs.length).all fun i=>xs.getD i 0 == ys.getD i 0)=(xs == ys)
 | [],[],_=>rfl
 | x :: xs,y :: ys,h=>by
  have ih:=all_range_eqU xs ys (by simpa using h)
  rw [List.length_cons,List.range_succ_eq_map,List.all_cons,List.all_map]
  simp only [List.getD_cons_zero,Function.comp_def,List.getD_cons_succ,ih]
  simp [List.cons_beq_cons]
 | [],_ :: _,h=>by simp at h
 | _ :: _,[],h=>by simp at h
theorem eq34 (w:World) (d:Nat) (xs ys:List Int) (hx:xs.length=16) (hy:ys.length=16) :
  (Op.equalIn (d + 2) 35 (.agg (row xs)) (.agg (row ys))).run Tryz.prog w = .ok (xs == ys) w:=by
 rw [← all_range_eqU xs ys (hx.trans hy.symm),hx,List.range_eq_range',Op.equalIn]
 simp only [Sem.run_bind,run_underlying Tryz.underlying35,Result.andThen_ok,Tryz.sizeOf33,Std.Legacy.Range.forIn_eq_forIn_range',Std.Legacy.Range.size,Nat.sub_zero,Nat.add_sub_cancel,Nat.div_one]
 have hl:∀ i ∈ List.range' 0 16 1,i < 16:=fun i hi=>by simpa using (List.mem_range'_1.1 hi).2
 generalize List.range' 0 16 1=l at hl ⊢
 induction l with
 | nil=>simp
 | cons i l ih=>
  have hi:i < 16:=hl i (by simp)
  have px:(part 33 (row xs) (i * 1)).run Tryz.prog w = .ok (U (xs.getD i 0)) w:=by
   simp [part,isAgg,run_underlying Tryz.underlying33,row,List.getD,List.getElem?_eq_getElem (show i < xs.length by omega)]
  have py:(part 33 (row ys) (i * 1)).run Tryz.prog w = .ok (U (ys.getD i 0)) w:=by
   simp [part,isAgg,run_underlying Tryz.underlying33,row,List.getD,List.getElem?_eq_getElem (show i < ys.length by omega)]
  have pe:(Op.equalIn (d + 1) 33 (U (xs.getD i 0)) (U (ys.getD i 0))).run Tryz.prog w = .ok (xs.getD i 0 == ys.getD i 0) w:=by
   rw [U,U,run_equalIn_int w d 33 .u32 .u32 _ _ Tryz.underlying33]
  simp only [List.forIn_cons,Sem.run_bind,px,py,pe,Result.andThen_ok,List.all_cons]
  cases hb:(xs.getD i 0 == ys.getD i 0)
  ·simp
  ·simp only [Bool.not_true,Bool.false_eq_true,if_false,Sem.run_pure,Result.andThen_ok,Bool.true_and]
   exact ih fun j hj=>hl j (by simp [hj])
theorem part34 (w:World) (l:Ln):(part 35 (la l) 2).run Tryz.prog w = .ok (.agg (row l.d)) w:=by
 have h:(la l).extract 2 18=row l.d:=by
  apply Array.ext'
  simp [la,ln,row]
  rw [List.take_of_length_le (by simp [l.h])]
 have h34:=Tryz.isAgg35
 have hs:=Tryz.sizeOf35
 simp [part,h34,hs,h]
end Go.Proofs.YtcoimipgilkmbaaGreatDoor.kk
namespace Go.Proofs.YtcoimipgilkmbaaGreatDoor.kk
set_option linter.unusedVariables false
set_option linter.unusedSimpArgs false
set_option maxRecDepth 1000000
set_option maxHeartbeats 16000000
open Go Go.ChangeShapes Go.WideShapes Go.ChangeAt Go.RowKit Go.Shelf
open Go.Proofs.YtcoimipgilkmbaaGreatDoor.tt (row)
theorem stood36:Tryz.prog.stoodInHeld 50=false:=by kernel_rfl
theorem fields36:Tryz.prog.underlying 50=some (.struct (Tryz.prog.fieldsOf 50)):=by kernel_rfl
theorem eq34k (k:Nat) (hk:2 ≤ k) (w:World) (xs ys:List Int) (hx:xs.length=16) (hy:ys.length=16):(Op.equalIn k 35 (.agg (row xs)) (.agg (row ys))).run Tryz.prog w = .ok (xs == ys) w:=by
 obtain ⟨d,rfl⟩:∃ d,k=d + 2:=⟨k - 2,by omega⟩
 exact eq34 w d xs ys hx hy
theorem eqIk (k:Nat) (hk:1 ≤ k) (w:World) (t:TypeId) (q:IntKind) (a b:Int) (h:Tryz.prog.underlying t=some (.int q)):(Op.equalIn k t (.int q a) (.int q b)).run Tryz.prog w = .ok (a == b) w:=by
 obtain ⟨d,rfl⟩:∃ d,k=d + 1:=⟨k - 1,by omega⟩
 exact run_equalIn_int w d t q q a b h
theorem eq36k (k:Nat) (hk:3 ≤ k) (x y:Ln) (w:World):(Op.equalIn k 50 (.agg (la x)) (.agg (la y))).run Tryz.prog w = .ok (decide (x=y)) w:=by
 obtain ⟨d,rfl⟩:∃ d,k=d + 1:=⟨k - 1,by omega⟩
 rw [run_equalIn_agg w d 50 _ _ fields36 stood36]
 simp only [Program.fieldsOf,Tryz.underlying50]
 have p0:∀ l:Ln,(part 3 (la l) 0).run Tryz.prog w = .ok (.int .i64 l.b) w:=fun l=>by simp [part,isAgg,run_underlying Tryz.underlying3,la,ln]
 have p1:∀ l:Ln,(part 32 (la l) 1).run Tryz.prog w = .ok (.int .u8 l.s) w:=fun l=>by simp [part,isAgg,run_underlying Tryz.underlying32,la,ln]
 have p2:=part34 w
 have e34:=eq34k d (by omega) w x.d y.d x.h y.h
 have e0:=eqIk d (by omega) w 3 .i64 x.b y.b Tryz.underlying3
 have e1:=eqIk d (by omega) w 32 .u8 x.s y.s Tryz.underlying32
 simp [Op.eqFields,Sem.run_bind,p0,p1,p2,e34,e0,e1]
 by_cases h1:x.b=y.b
 ·by_cases h2:x.s=y.s
  ·by_cases h3:x.d=y.d
   ·have:x=y:=Ln.ext h1 h2 h3
    simp [this]
   ·have:x ≠ y:=fun e=>h3 (by rw [e])
    simp [this,h1,h2,h3]
  ·have:x ≠ y:=fun e=>h2 (by rw [e])
   simp [this,h1,h2]
 ·have:x ≠ y:=fun e=>h1 (by rw [e])
  simp [this,h1]
theorem q36n (x y:Ln) (w:World):(binOp .neq 50 (.agg (la x)) (.agg (la y))).run Tryz.prog w = .ok (.bool (!decide (x=y))) w:=by
 rw [run_neq_struct,eq36k 10000 (by omega) x y w]
 rfl
end Go.Proofs.YtcoimipgilkmbaaGreatDoor.kk
namespace Go.Proofs.YtcoimipgilkmbaaGreatDoor.kk
set_option linter.unusedVariables false
set_option linter.unusedSimpArgs false
set_option maxRecDepth 1000000
set_option maxHeartbeats 16000000
open Go Go.ChangeShapes Go.WideShapes Go.ChangeAt Go.RowKit Go.Shelf
open Go.Proofs.YtcoimipgilkmbaaGreatDoor.tt (hb Tab Cfg)
def wayFor (ls:List Ln) (b:Int):Option Nat:=match ls.findIdx? (isOf b) with | some i=>some i | none=>ls.findIdx? isFree
def setAt (c:Cfg) (ss:List St) (b:Int):St:=(ss[setOf c b]?).getD ([],0)
def cput (c:Cfg) (ss:List St) (l:Ln):List St × Int:=
 if l.may then
  match wayFor (setAt c ss l.b).1 l.b with
  | none=>(ss,7)
  | some i=>(ss.set (setOf c l.b) ((setAt c ss l.b).1.set i l,us (setAt c ss l.b).2 (setAt c ss l.b).1.length i),0)
 else (ss,2)
def cfind (c:Cfg) (ss:List St) (b:Int):Ln × Bool:=match (setAt c ss b).1.findIdx? (isOf b) with | none=>(zl,false) | some i=>((setAt c ss b).1.getD i zl,true)
def cdrop (c:Cfg) (ss:List St) (b:Int):List St × Bool:=match (setAt c ss b).1.findIdx? (isOf b) with | none=>(ss,false) | some i=>(ss.set (setOf c b) ((setAt c ss b).1.set i zl,(setAt c ss b).2),true)
def cuse (c:Cfg) (ss:List St) (b:Int):List St × Bool:=match (setAt c ss b).1.findIdx? (isOf b) with | none=>(ss,false) | some i=>(ss.set (setOf c b) ((setAt c ss b).1,us (setAt c ss b).2 (setAt c ss b).1.length i),true)
def cgoes (c:Cfg) (ss:List St) (b:Int):Ln × Bool:=
 if 0 ≤ b∧b < 256 then
  match wayFor (setAt c ss b).1 b with
  | some _=>(zl,false)
  | none=>((setAt c ss b).1.getD (vc (setAt c ss b).2 (setAt c ss b).1.length) zl,true)
 else (zl,false)
def cwrite (c:Cfg) (ss:List St) (b k x:Int):List St × Int:=
 match (setAt c ss b).1.findIdx? (isOf b) with
 | none=>(ss,4)
 | some i=>
  if 0 ≤ k∧k < 16 then
   if ((setAt c ss b).1.getD i zl).s=1 then (ss,8)
   else (ss.set (setOf c b) ((setAt c ss b).1.set i ((((setAt c ss b).1.getD i zl).word k.toNat x).state 3),us (setAt c ss b).2 (setAt c ss b).1.length i),0)
  else (ss,5)
def cturn (c:Cfg) (ss:List St) (b s:Int):List St × Int:=
 match (setAt c ss b).1.findIdx? (isOf b) with
 | none=>(ss,4)
 | some i=>if 1 ≤ s∧s ≤ 3 then (ss.set (setOf c b) ((setAt c ss b).1.set i (((setAt c ss b).1.getD i zl).state s),(setAt c ss b).2),0) else (ss,2)
section
variable (K:Loc) (c:Cfg) (ss:List St) (w:World) (hC:Cac w K c ss) (hT:Tab w)
include hC hT
omit hT in
theorem Cac.here (b:Int):ss[setOf c b]?=some (setAt c ss b):=by
 obtain ⟨p,_,hp,_⟩:=hC.at b
 rw [setAt,hp];rfl
theorem find_any (b:Int):Calls Tryz.prog 58 #[.pointer (some ⟨K.b,0,none⟩),.int .i64 b] w fun e w'=>e = .returned (.tuple #[.agg (la (cfind c ss b).1),.bool (cfind c ss b).2])∧w.grownBy w' none:=by
 have hp:=Cac.here K c ss w hC b
 unfold cfind
 generalize setAt c ss b=p at *
 cases hn:p.1.findIdx? (isOf b) with
 | none=>exact find_none K c ss b p w hC hT hp hn
 | some i=>
  have hl:p.1[i]?=some (p.1.getD i zl):=by
   have:=idx_lt hn
   rw [List.getD_eq_getElem?_getD,List.getElem?_eq_getElem this];rfl
  exact find_some K c ss b p w hC hT hp i _ hn hl
theorem drop_any (b:Int):Calls Tryz.prog 91 #[.pointer (some ⟨K.b,0,none⟩),.int .i64 b] w fun e w'=>e = .returned (.bool (cdrop c ss b).2)∧Cac w' K c (cdrop c ss b).1∧Kept K.own w w':=by
 have hp:=Cac.here K c ss w hC b
 unfold cdrop
 generalize setAt c ss b=p at *
 cases hn:p.1.findIdx? (isOf b) with
 | none=>exact (drop_none K c ss b p w hC hT hp hn).mono fun e w' h=>⟨h.1,hC.grown h.2,Kept.of h.2⟩
 | some i=>exact drop_some K c ss b p w hC hT hp i hn
theorem uses_any (b:Int):Calls Tryz.prog 55 #[.pointer (some ⟨K.b,0,none⟩),.int .i64 b] w fun e w'=>e = .returned (.bool (cuse c ss b).2)∧Cac w' K c (cuse c ss b).1∧Kept K.own w w':=by
 have hp:=Cac.here K c ss w hC b
 unfold cuse
 generalize setAt c ss b=p at *
 cases hn:p.1.findIdx? (isOf b) with
 | none=>exact (uses_none K c ss b p w hC hT hp hn).mono fun e w' h=>⟨h.1,hC.grown h.2,Kept.of h.2⟩
 | some i=>exact uses_some K c ss b p w hC hT hp i hn
theorem turn_any (b s:Int):Calls Tryz.prog 143 #[.pointer (some ⟨K.b,0,none⟩),.int .i64 b,.int .u8 s] w fun e w'=>e = .returned (.int .i64 (cturn c ss b s).2)∧Cac w' K c (cturn c ss b s).1∧Kept K.own w w':=by
 have hp:=Cac.here K c ss w hC b
 unfold cturn
 generalize setAt c ss b=p at *
 cases hn:p.1.findIdx? (isOf b) with
 | none=>exact (turn_none K c ss b p w hC hT hp s hn).mono fun e w' h=>⟨h.1,hC.grown h.2,Kept.of h.2⟩
 | some i=>
  have hl:p.1[i]?=some (p.1.getD i zl):=by
   have:=idx_lt hn
   rw [List.getD_eq_getElem?_getD,List.getElem?_eq_getElem this];rfl
  by_cases hs:1 ≤ s∧s ≤ 3
  ·simp only [if_pos hs]
   exact turn_ok K c ss b p w hC hT hp s i _ hn hl hs
  ·simp only [if_neg hs]
   exact (turn_bad K c ss b p w hC hT hp s i hn hs).mono fun e w' h=>⟨h.1,hC.grown h.2,Kept.of h.2⟩
theorem write_any (b k x:Int):Calls Tryz.prog 49 #[.pointer (some ⟨K.b,0,none⟩),.int .i64 b,.int .i64 k,.int .u32 x] w fun e w'=>e = .returned (.int .i64 (cwrite c ss b k x).2)∧Cac w' K c (cwrite c ss b k x).1∧Kept K.own w w':=by
 have hp:=Cac.here K c ss w hC b
 unfold cwrite
 generalize setAt c ss b=p at *
 cases hn:p.1.findIdx? (isOf b) with
 | none=>exact (write_none K c ss b p w hC hT hp k x hn).mono fun e w' h=>⟨h.1,hC.grown h.2,Kept.of h.2⟩
 | some i=>
  have hl:p.1[i]?=some (p.1.getD i zl):=by
   have:=idx_lt hn
   rw [List.getD_eq_getElem?_getD,List.getElem?_eq_getElem this];rfl
  by_cases hk:0 ≤ k∧k < 16
  ·obtain ⟨m,rfl⟩:∃ m:Nat,k=(m:Int):=⟨k.toNat,by omega⟩
   simp only [if_pos hk,Int.toNat_natCast]
   by_cases hs:(p.1.getD i zl).s=1
   ·simp only [if_pos hs]
    exact (write_shared K c ss b p w hC hT hp m x i _ hn hl (by omega) hs).mono fun e w' h=>⟨h.1,hC.grown h.2,Kept.of h.2⟩
   ·simp only [if_neg hs]
    exact write_ok K c ss b p w hC hT hp m x i _ hn hl (by omega) hs
  ·simp only [if_neg hk]
   exact (write_range K c ss b p w hC hT hp k x i hn hk).mono fun e w' h=>⟨h.1,hC.grown h.2,Kept.of h.2⟩
theorem put_any (l:Ln):Calls Tryz.prog 137 #[.pointer (some ⟨K.b,0,none⟩),.agg (la l)] w fun e w'=>e = .returned (.int .i64 (cput c ss l).2)∧Cac w' K c (cput c ss l).1∧Kept K.own w w':=by
 have hp:=Cac.here K c ss w hC l.b
 unfold cput
 by_cases hl:l.may
 ·simp only [if_pos hl]
  generalize setAt c ss l.b=p at *
  unfold wayFor
  cases hn:p.1.findIdx? (isOf l.b) with
  | some i=>exact put_old K c ss l p w hC hT hp hl i hn
  | none=>
   simp only []
   cases hf:p.1.findIdx? isFree with
   | some i=>exact put_free K c ss l p w hC hT hp hl i hn hf
   | none=>exact (put_full K c ss l p w hC hT hp hl hn hf).mono fun e w' h=>⟨h.1,hC.grown h.2,Kept.of h.2⟩
 ·simp only [if_neg hl]
  exact (put_bad K.b l w hl).mono fun e w' h=>⟨h.1,hC.grown h.2,Kept.of h.2⟩
theorem goes_any (b:Int):Calls Tryz.prog 90 #[.pointer (some ⟨K.b,0,none⟩),.int .i64 b] w fun e w'=>e = .returned (.tuple #[.agg (la (cgoes c ss b).1),.bool (cgoes c ss b).2])∧w.grownBy w' none:=by
 have hp:=Cac.here K c ss w hC b
 unfold cgoes
 by_cases hb:0 ≤ b∧b < 256
 ·simp only [if_pos hb]
  generalize setAt c ss b=p at *
  unfold wayFor
  cases hn:p.1.findIdx? (isOf b) with
  | some i=>exact goes_old b w K c ss p hC hT hp hb i hn
  | none=>
   simp only []
   cases hf:p.1.findIdx? isFree with
   | some i=>exact goes_free b w K c ss p hC hT hp hb i hn hf
   | none=>
    have hg:=hC.good (List.mem_of_getElem? hp)
    have hv:vc p.2 p.1.length < p.1.length:=vc_lt p.2 p.1.length (by unfold good at hg;omega)
    have hl:p.1[vc p.2 p.1.length]?=some (p.1.getD (vc p.2 p.1.length) zl):=by
     rw [List.getD_eq_getElem?_getD,List.getElem?_eq_getElem hv];rfl
    exact goes_some b w K c ss p hC hT hp hb _ hn hf hl
 ·simp only [if_neg hb]
  exact goes_bad b w _ hb
end
end Go.Proofs.YtcoimipgilkmbaaGreatDoor.kk
namespace Go.Proofs.YtcoimipgilkmbaaGreatDoor.kk
set_option linter.unusedVariables false
set_option linter.unusedSimpArgs false
set_option maxRecDepth 1000000
set_option maxHeartbeats 16000000
open Go
open Go.Proofs.YtcoimipgilkmbaaGreatDoor.tt (hb Cfg row)
structure Inv (c:Cfg) (ss:List St):Prop where
 set:∀ (i:Nat) p,ss[i]?=some p→∀ (j:Nat) l,p.1[j]?=some l→live l=true→setOf c l.b=i∧l.may
 one:∀ (i:Nat) p,ss[i]?=some p→∀ (j k:Nat) l l',p.1[j]?=some l→p.1[k]?=some l'→live l=true→live l'=true→l.b=l'.b→j=k
theorem live_zl:live zl=false:=rfl
theorem isOf_iff {b:Int} {l:Ln}:isOf b l=true ↔ live l=true∧l.b=b:=by simp [isOf,live]
theorem isFree_iff {l:Ln}:isFree l=true ↔ live l=false:=by simp [isFree,live]
theorem idx_at {p:Ln→Bool} {ls:List Ln} {i:Nat} (h:ls.findIdx? p=some i):∃ l,ls[i]?=some l∧p l=true∧ls.getD i zl=l:=by
 obtain ⟨hi,hp,_⟩:=List.findIdx?_eq_some_iff_getElem.1 h
 exact ⟨_,List.getElem?_eq_getElem hi,hp,by rw [List.getD_eq_getElem?_getD,List.getElem?_eq_getElem hi];rfl⟩
theorem idx_no {p:Ln→Bool} {ls:List Ln} (h:ls.findIdx? p=none) (j:Nat) (l:Ln) (hl:ls[j]?=some l):p l=false:=
 List.findIdx?_eq_none_iff.1 h l (List.mem_of_getElem? hl)
theorem idx_yes {p:Ln→Bool} {ls:List Ln} {j:Nat} {l:Ln} (hl:ls[j]?=some l) (hp:p l=true):∃ i,ls.findIdx? p=some i:=by
 cases h:ls.findIdx? p with
 | some i=>exact ⟨i,rfl⟩
 | none=>rw [idx_no h j l hl] at hp;cases hp
theorem Inv.empty (c:Cfg):Inv c (empty c):=by
 have h:∀ (i:Nat) p,(kk.empty c)[i]?=some p→∀ (j:Nat) l,p.1[j]?=some l→live l=false:=fun i p hp j l hl=>by
  unfold kk.empty at hp
  rw [List.getElem?_replicate] at hp
  split at hp
  ·cases hp
   simp only [List.getElem?_replicate] at hl
   split at hl
   ·cases hl;rfl
   ·cases hl
  ·cases hp
 exact ⟨fun i p hp j l hl hv=>absurd ((h i p hp j l hl).symm.trans hv) (by decide),fun i p hp j k l l' hl _ hv _ _=>absurd ((h i p hp j l hl).symm.trans hv) (by decide)⟩
theorem Inv.row {c:Cfg} {ss:List St} (h:Inv c ss) (i:Nat) (row:List Ln) (m:Nat) (h1:∀ (j:Nat) l,row[j]?=some l→live l=true→setOf c l.b=i∧l.may)
  (h2:∀ (j k:Nat) l l',row[j]?=some l→row[k]?=some l'→live l=true→live l'=true→l.b=l'.b→j=k):Inv c (ss.set i (row,m)):=by
 have hget:∀ j p',(ss.set i (row,m))[j]?=some p'→(j=i∧p'.1=row) ∨ ss[j]?=some p':=fun j p' hj=>by
  by_cases hji:i=j
  ·subst hji
   have:=(List.getElem?_eq_some_iff.1 hj).1
   rw [List.getElem?_set_self (by simpa using this)] at hj
   exact .inl ⟨rfl,by cases hj;rfl⟩
  ·rw [List.getElem?_set_ne hji] at hj
   exact .inr hj
 refine ⟨fun j p hp k l hl hv=>?_,fun j p hp a b l l' ha hb=>?_⟩
 ·rcases hget j p hp with ⟨rfl,e⟩ | hp'
  ·rw [e] at hl;exact h1 k l hl hv
  ·exact h.set j p hp' k l hl hv
 ·rcases hget j p hp with ⟨rfl,e⟩ | hp'
  ·rw [e] at ha hb;exact h2 a b l l' ha hb
  ·exact h.one j p hp' a b l l' ha hb
theorem Inv.put {c:Cfg} {ss:List St} (h:Inv c ss) {i:Nat} {p:St} (hp:ss[i]?=some p) (k m:Nat) (l:Ln) (h1:live l=true→setOf c l.b=i∧l.may)
  (h2:live l=true→∀ (j:Nat) l',p.1[j]?=some l'→live l'=true→l'.b=l.b→j=k):Inv c (ss.set i (p.1.set k l,m)):=by
 have hget:∀ (j:Nat) x,(p.1.set k l)[j]?=some x→(j=k∧x=l) ∨ (j ≠ k∧p.1[j]?=some x):=fun j x hj=>by
  by_cases hjk:k=j
  ·subst hjk
   have:=(List.getElem?_eq_some_iff.1 hj).1
   rw [List.getElem?_set_self (by simpa using this)] at hj
   exact .inl ⟨rfl,by cases hj;rfl⟩
  ·rw [List.getElem?_set_ne hjk] at hj
   exact .inr ⟨fun e=>hjk e.symm,hj⟩
 refine h.row i _ m (fun j x hx hv=>?_) (fun j j' x x' hx hx' hv hv' e=>?_)
 ·rcases hget j x hx with ⟨_,rfl⟩ | ⟨_,hx⟩
  ·exact h1 hv
  ·exact h.set i p hp j x hx hv
 ·rcases hget j x hx with ⟨e1,e3⟩ | ⟨e1,hx1⟩
  ·rcases hget j' x' hx' with ⟨e2,e4⟩ | ⟨e2,hx2⟩
   ·rw [e1,e2]
   ·subst e3
    exact absurd (h2 hv j' x' hx2 hv' e.symm) e2
  ·rcases hget j' x' hx' with ⟨e2,e4⟩ | ⟨e2,hx2⟩
   ·subst e4
    exact absurd (h2 hv' j x hx1 hv e) e1
   ·exact h.one i p hp j j' x x' hx1 hx2 hv hv' e
theorem Inv.mem {c:Cfg} {ss:List St} (h:Inv c ss) {i:Nat} {p:St} (hp:ss[i]?=some p) (m:Nat):Inv c (ss.set i (p.1,m)):=
 h.row i _ m (fun j l hl hv=>h.set i p hp j l hl hv) (fun j k l l' hl hl'=>h.one i p hp j k l l' hl hl')
theorem may_live {l:Ln} (h:l.may):live l=true:=by
 have:=h.2.1
 unfold live;simp;omega
section
variable {c:Cfg} {ss:List St} (h:Inv c ss) (hs:∀ b,ss[setOf c b]?=some (setAt c ss b))
include h hs
theorem Inv.cput (l:Ln):Inv c (cput c ss l).1:=by
 unfold kk.cput
 by_cases hl:l.may
 ·simp only [if_pos hl]
  have hp:=hs l.b
  generalize setAt c ss l.b=p at *
  unfold wayFor
  cases hn:p.1.findIdx? (isOf l.b) with
  | some i=>
   obtain ⟨x,hx,hix,_⟩:=idx_at hn
   obtain ⟨hv,hb⟩:=isOf_iff.1 hix
   exact h.put hp i _ l (fun _=>⟨rfl,hl⟩) (fun _ j l' hj hv' e=>h.one _ p hp j i l' x hj hx hv' hv (by rw [e,hb]))
  | none=>
   simp only []
   cases hf:p.1.findIdx? isFree with
   | some i=>exact h.put hp i _ l (fun _=>⟨rfl,hl⟩) (fun _ j l' hj hv' e=>by
     have:=idx_no hn j l' hj
     rw [isOf_iff.2 ⟨hv',e⟩] at this;cases this)
   | none=>exact h
 ·simp only [if_neg hl];exact h
theorem Inv.cdrop (b:Int):Inv c (cdrop c ss b).1:=by
 unfold kk.cdrop
 have hp:=hs b
 generalize setAt c ss b=p at *
 cases hn:p.1.findIdx? (isOf b) with
 | none=>exact h
 | some i=>exact h.put hp i _ zl (fun e=>by rw [live_zl] at e;cases e) (fun e=>by rw [live_zl] at e;cases e)
theorem Inv.cuse (b:Int):Inv c (cuse c ss b).1:=by
 unfold kk.cuse
 have hp:=hs b
 generalize setAt c ss b=p at *
 cases hn:p.1.findIdx? (isOf b) with
 | none=>exact h
 | some i=>exact h.mem hp _
theorem Inv.other {b:Int} {i:Nat} {x:Ln} {m:Nat} (hn:(setAt c ss b).1.findIdx? (isOf b)=some i) (hx:x.b=((setAt c ss b).1.getD i zl).b) (hm:1 ≤ x.s∧x.s ≤ 3):Inv c (ss.set (setOf c b) ((setAt c ss b).1.set i x,m)):=by
 have hp:=hs b
 obtain ⟨y,hy,hiy,e⟩:=idx_at hn
 rw [e] at hx
 obtain ⟨hv,hb⟩:=isOf_iff.1 hiy
 obtain ⟨hq,hmay⟩:=h.set _ _ hp i y hy hv
 exact h.put hp i m x (fun _=>⟨by rw [hx,hb],⟨by rw [hx];exact hmay.1,hm⟩⟩) (fun _ j l' hj hv' e'=>h.one _ _ hp j i l' y hj hy hv' hv (by rw [e',hx]))
theorem Inv.cwrite (b k x:Int):Inv c (cwrite c ss b k x).1:=by
 unfold kk.cwrite
 cases hn:(setAt c ss b).1.findIdx? (isOf b) with
 | none=>exact h
 | some i=>
  simp only []
  split
  ·split
   ·exact h
   ·exact h.other hs hn rfl ⟨by show (1:Int) ≤ 3;omega,by show (3:Int) ≤ 3;omega⟩
  ·exact h
theorem Inv.cturn (b s:Int):Inv c (cturn c ss b s).1:=by
 unfold kk.cturn
 cases hn:(setAt c ss b).1.findIdx? (isOf b) with
 | none=>exact h
 | some i=>
  simp only []
  split
  ·exact h.other hs hn rfl (by assumption)
  ·exact h
end
/-! Where something would have to go. -/
section
variable {c:Cfg} {ss:List St} (h:Inv c ss) (hs:∀ b,ss[setOf c b]?=some (setAt c ss b)) (b:Int)
theorem mk_may (hb:0 ≤ b∧b < 256):(mk b 1).may:=⟨hb,by show (1:Int) ≤ 1;omega,by show (1:Int) ≤ 3;omega⟩
theorem put_code (hb:0 ≤ b∧b < 256):(cput c ss (mk b 1)).2=if (cgoes c ss b).2=true then 7 else 0:=by
 unfold cput cgoes
 rw [if_pos (mk_may b hb),if_pos hb]
 show (match wayFor (setAt c ss b).1 b with | none=>(ss,(7:Int)) | some i=>_).2=_
 cases wayFor (setAt c ss b).1 b <;> rfl
theorem goes_out (hb:¬ (0 ≤ b∧b < 256)):cgoes c ss b=(zl,false):=by
 unfold cgoes
 rw [if_neg hb]
include h hs
theorem goes_set (hv:vc (setAt c ss b).2 (setAt c ss b).1.length < (setAt c ss b).1.length) (hg:(cgoes c ss b).2=true):setOf c (cgoes c ss b).1.b=setOf c b∧(cdrop c ss (cgoes c ss b).1.b).2=true:=by
 have hp:=hs b
 unfold cgoes at hg ⊢
 by_cases hb:0 ≤ b∧b < 256
 ·simp only [if_pos hb] at hg ⊢
  unfold wayFor at hg ⊢
  cases hn:(setAt c ss b).1.findIdx? (isOf b) with
  | some i=>simp [hn] at hg
  | none=>
   cases hf:(setAt c ss b).1.findIdx? isFree with
   | some i=>simp [hn,hf] at hg
   | none=>
    simp only []
    generalize hvv:vc (setAt c ss b).2 (setAt c ss b).1.length=v at *
    obtain ⟨l,hl⟩:∃ l,(setAt c ss b).1[v]?=some l:=⟨_,List.getElem?_eq_getElem hv⟩
    have hd:(setAt c ss b).1.getD v zl=l:=by rw [List.getD_eq_getElem?_getD,hl];rfl
    have hlv:live l=true:=by
     have:=idx_no hf v l hl
     cases e:live l
     ·rw [isFree_iff.2 e] at this;cases this
     ·rfl
    obtain ⟨h1,_⟩:=h.set _ _ hp v l hl hlv
    rw [hd]
    refine ⟨h1,?_⟩
    have hsa:setAt c ss l.b=setAt c ss b:=by unfold setAt;rw [h1]
    unfold kk.cdrop
    rw [hsa]
    obtain ⟨i,hi⟩:=idx_yes hl (isOf_iff.2 ⟨hlv,rfl⟩)
    rw [hi]
 ·rw [if_neg hb] at hg;cases hg
theorem drop_room (hv:vc (setAt c ss b).2 (setAt c ss b).1.length < (setAt c ss b).1.length) (hb:0 ≤ b∧b < 256) (hg:(cgoes c ss b).2=true):(cput c (cdrop c ss (cgoes c ss b).1.b).1 (mk b 1)).2=0:=by
 obtain ⟨h1,h2⟩:=goes_set h hs b hv hg
 have hp:=hs b
 have hsl:setOf c b < ss.length:=(List.getElem?_eq_some_iff.1 hp).1
 generalize (cgoes c ss b).1.b=b' at *
 have hsa:setAt c ss b'=setAt c ss b:=by unfold setAt;rw [h1]
 have hex:∃ i,i < (setAt c ss b).1.length∧(kk.cdrop c ss b').1=ss.set (setOf c b) ((setAt c ss b).1.set i zl,(setAt c ss b).2):=by
  unfold kk.cdrop at h2 ⊢
  rw [hsa] at h2 ⊢
  rw [h1]
  cases hn:(setAt c ss b).1.findIdx? (isOf b') with
  | none=>rw [hn] at h2;cases h2
  | some i=>exact ⟨i,idx_lt hn,rfl⟩
 obtain ⟨i,hi,e⟩:=hex
 rw [e]
 have hsn:setAt c (ss.set (setOf c b) ((setAt c ss b).1.set i zl,(setAt c ss b).2)) b=((setAt c ss b).1.set i zl,(setAt c ss b).2):=by
  rw [setAt,List.getElem?_set_self hsl];rfl
 unfold cput
 rw [if_pos (mk_may b hb)]
 show (match wayFor (setAt c _ b).1 b with | none=>_ | some i=>_:List St × Int).2=_
 rw [hsn]
 have hw:∃ j,wayFor ((setAt c ss b).1.set i zl) b=some j:=by
  unfold wayFor
  cases ((setAt c ss b).1.set i zl).findIdx? (isOf b) with
  | some j=>exact ⟨j,rfl⟩
  | none=>exact idx_yes (j:=i) (l:=zl) (List.getElem?_set_self hi) rfl
 obtain ⟨j,hj⟩:=hw
 rw [hj]
end
end Go.Proofs.YtcoimipgilkmbaaGreatDoor.kk
namespace Go.Proofs.YtcoimipgilkmbaaGreatDoor.kk
set_option linter.unusedVariables false
set_option linter.unusedSimpArgs false
set_option maxRecDepth 1000000
set_option maxHeartbeats 16000000
open Go
open Go.Proofs.YtcoimipgilkmbaaGreatDoor.tt (Cfg)
def fF (c:Cfg) (ss:List St):Int→Option Ln:=fun b=>if (cfind c ss b).2=true then some (cfind c ss b).1 else none
def upd (f:Int→Option Ln) (k:Int) (l:Ln):Int→Option Ln:=fun y=>if y=k then some l else f y
def del (f:Int→Option Ln) (k:Int):Int→Option Ln:=fun y=>if y=k then none else f y
def inRow (ls:List Ln) (b:Int):Option Ln:=ls.find? (isOf b)
theorem find_idx (ls:List Ln) (p:Ln→Bool):ls.find? p=(ls.findIdx? p).map fun i=>ls.getD i zl:=by
 induction ls with
 | nil=>rfl
 | cons l r ih=>
  rw [List.find?_cons,List.findIdx?_cons]
  cases h:p l
  ·simp only [ih,Bool.false_eq_true,if_false]
   cases r.findIdx? p <;> simp
  ·simp
theorem fF_row (c:Cfg) (ss:List St) (b:Int):fF c ss b=inRow (setAt c ss b).1 b:=by
 unfold fF cfind inRow
 rw [find_idx]
 cases (setAt c ss b).1.findIdx? (isOf b) <;> rfl
theorem inRow_other (ls:List Ln) (i:Nat) (l:Ln) (y:Int) (hl:isOf y l=false) (ho:∀ x,ls[i]?=some x→isOf y x=false):inRow (ls.set i l) y=inRow ls y:=by
 induction ls generalizing i with
 | nil=>rfl
 | cons x r ih=>
  cases i with
  | zero=>
   have:=ho x rfl
   unfold inRow
   rw [List.set_cons_zero,List.find?_cons,List.find?_cons,hl,this]
  | succ i=>
   have:=ih i (fun x hx=>ho x (by simpa using hx))
   unfold inRow at this ⊢
   rw [List.set_cons_succ,List.find?_cons,List.find?_cons,this]
theorem inRow_same (ls:List Ln) (i:Nat) (l:Ln) (b:Int) (hi:i < ls.length) (hl:isOf b l=true) (ho:∀ (j:Nat) x,j < i→ls[j]?=some x→isOf b x=false):inRow (ls.set i l) b=some l:=by
 induction ls generalizing i with
 | nil=>simp at hi
 | cons x r ih=>
  cases i with
  | zero=>unfold inRow;rw [List.set_cons_zero,List.find?_cons,hl]
  | succ i=>
   have h0:=ho 0 x (by omega) rfl
   have:=ih i (by simpa using hi) (fun j y hj hy=>ho (j + 1) y (by omega) (by simpa using hy))
   unfold inRow at this ⊢
   rw [List.set_cons_succ,List.find?_cons,h0,this]
theorem inRow_none (ls:List Ln) (b:Int) (h:∀ (j:Nat) x,ls[j]?=some x→isOf b x=false):inRow ls b=none:=by
 unfold inRow
 rw [List.find?_eq_none]
 intro x hx
 obtain ⟨j,hj⟩:=List.getElem?_of_mem hx
 simp [h j x hj]
theorem setAt_set (c:Cfg) (ss:List St) (s y:Int) (p:St) (hs:setOf c s < ss.length):setAt c (ss.set (setOf c s) p) y=if setOf c y=setOf c s then p else setAt c ss y:=by
 unfold setAt
 by_cases h:setOf c y=setOf c s
 ·rw [if_pos h,h,List.getElem?_set_self hs];rfl
 ·rw [if_neg h,List.getElem?_set_ne (fun e=>h e.symm)]
theorem isOf_ne {y:Int} {l:Ln} (h:l.b ≠ y):isOf y l=false:=by
 unfold isOf;simp [h]
section
variable {c:Cfg} {ss:List St} (h:Inv c ss) (hs:∀ b,ss[setOf c b]?=some (setAt c ss b))
include hs
theorem fF_set (b:Int) (i m:Nat) (l:Ln) (hl:∀ y,y ≠ b→isOf y l=false) (hi:i < (setAt c ss b).1.length) (ho:∀ x,(setAt c ss b).1[i]?=some x→∀ y,y ≠ b→isOf y x=false) (y:Int) (hy:y ≠ b) :
  fF c (ss.set (setOf c b) ((setAt c ss b).1.set i l,m)) y=fF c ss y:=by
 have hsl:setOf c b < ss.length:=(List.getElem?_eq_some_iff.1 (hs b)).1
 rw [fF_row,fF_row,setAt_set c ss b y _ hsl]
 by_cases hsy:setOf c y=setOf c b
 ·rw [if_pos hsy]
  have e:setAt c ss y=setAt c ss b:=by unfold setAt;rw [hsy]
  rw [e]
  exact inRow_other _ i l y (hl y hy) (fun x hx=>ho x hx y hy)
 ·rw [if_neg hsy]
theorem fF_put (l:Ln) (hc:(cput c ss l).2=0):fF c (cput c ss l).1=upd (fF c ss) l.b l:=by
 unfold cput at hc ⊢
 by_cases hl:l.may
 ·simp only [if_pos hl] at hc ⊢
  cases hw:wayFor (setAt c ss l.b).1 l.b with
  | none=>rw [hw] at hc;simp at hc
  | some i=>
   simp only []
   have hsl:setOf c l.b < ss.length:=(List.getElem?_eq_some_iff.1 (hs l.b)).1
   have hil:isOf l.b l=true:=isOf_iff.2 ⟨may_live hl,rfl⟩
   have hparts:i < (setAt c ss l.b).1.length∧(∀ x,(setAt c ss l.b).1[i]?=some x→∀ y,y ≠ l.b→isOf y x=false)∧∀ (j:Nat) x,j < i→(setAt c ss l.b).1[j]?=some x→isOf l.b x=false:=by
    unfold wayFor at hw
    cases hn:(setAt c ss l.b).1.findIdx? (isOf l.b) with
    | some k=>
     rw [hn] at hw
     cases hw
     obtain ⟨x,hx,hxi,_⟩:=idx_at hn
     refine ⟨idx_lt hn,fun x' hx' y hy=>?_,fun j x' hj hx'=>?_⟩
     ·rw [hx] at hx';cases hx'
      exact isOf_ne (by rw [(isOf_iff.1 hxi).2];exact fun e=>hy e.symm)
     ·obtain ⟨_,_,h3⟩:=List.findIdx?_eq_some_iff_getElem.1 hn
      obtain ⟨hjl,rfl⟩:=List.getElem?_eq_some_iff.1 hx'
      simpa using h3 j hj
    | none=>
     rw [hn] at hw
     obtain ⟨x,hx,hxi,_⟩:=idx_at hw
     refine ⟨idx_lt hw,fun x' hx' y hy=>?_,fun j x' hj hx'=>idx_no hn j x' hx'⟩
     rw [hx] at hx';cases hx'
     have:=isFree_iff.1 hxi
     cases e:isOf y x
     ·rfl
     ·rw [(isOf_iff.1 e).1] at this;cases this
   funext y
   unfold upd
   by_cases hy:y=l.b
   ·subst hy
    rw [if_pos rfl,fF_row,setAt_set c ss _ _ _ hsl,if_pos rfl]
    exact inRow_same _ i l _ hparts.1 hil hparts.2.2
   ·rw [if_neg hy]
    exact fF_set hs l.b i _ l (fun y hy=>isOf_ne (fun e=>hy e.symm)) hparts.1 hparts.2.1 y hy
 ·simp only [if_neg hl] at hc
  cases hc
theorem fF_mem (b:Int) (m:Nat):fF c (ss.set (setOf c b) ((setAt c ss b).1,m))=fF c ss:=by
 have hsl:setOf c b < ss.length:=(List.getElem?_eq_some_iff.1 (hs b)).1
 funext y
 rw [fF_row,fF_row,setAt_set c ss b y _ hsl]
 split
 ·rename_i h
  have e:setAt c ss y=setAt c ss b:=by unfold setAt;rw [h]
  rw [e]
 ·rfl
theorem fF_use (b:Int):fF c (cuse c ss b).1=fF c ss:=by
 unfold cuse
 cases (setAt c ss b).1.findIdx? (isOf b) with
 | none=>rfl
 | some i=>exact fF_mem hs b _
include h
theorem fF_drop (b:Int):fF c (cdrop c ss b).1=del (fF c ss) b:=by
 unfold cdrop
 cases hn:(setAt c ss b).1.findIdx? (isOf b) with
 | none=>
  funext y
  unfold del
  by_cases hy:y=b
  ·subst hy
   rw [if_pos rfl,fF_row]
   exact inRow_none _ _ (fun j x hx=>idx_no hn j x hx)
  ·rw [if_neg hy]
 | some i=>
  obtain ⟨x,hx,hxi,_⟩:=idx_at hn
  obtain ⟨hxl,hxb⟩:=isOf_iff.1 hxi
  have hsl:setOf c b < ss.length:=(List.getElem?_eq_some_iff.1 (hs b)).1
  funext y
  unfold del
  by_cases hy:y=b
  ·subst hy
   rw [if_pos rfl,fF_row,setAt_set c ss _ _ _ hsl,if_pos rfl]
   refine inRow_none _ _ (fun j z hz=>?_)
   by_cases hij:i=j
   ·subst hij
    rw [List.getElem?_set_self (idx_lt hn)] at hz
    cases hz;rfl
   ·rw [List.getElem?_set_ne hij] at hz
    cases e:isOf y z
    ·rfl
    ·obtain ⟨hzl,hzb⟩:=isOf_iff.1 e
     exact absurd (h.one _ _ (hs y) i j x z hx hz hxl hzl (by rw [hxb,hzb])) hij
  ·rw [if_neg hy]
   exact fF_set hs b i _ zl (fun y _=>rfl) (idx_lt hn) (fun x' hx' y hy=>by
    rw [hx] at hx';cases hx'
    exact isOf_ne (by rw [hxb];exact fun e=>hy e.symm)) y hy
omit h in
theorem fF_write (b k x:Int) (hc:(cwrite c ss b k x).2=0):(0 ≤ k∧k < 16)∧fF c (cwrite c ss b k x).1=upd (fF c ss) b ((((fF c ss b).getD zl).word k.toNat x).state 3):=by
 have hb0:=fF_row c ss b
 unfold inRow at hb0
 rw [find_idx] at hb0
 unfold cwrite at hc ⊢
 cases hn:(setAt c ss b).1.findIdx? (isOf b) with
 | none=>rw [hn] at hc;cases hc
 | some i=>
  rw [hn] at hc hb0
  simp only [Option.map_some] at hc hb0 ⊢
  by_cases hk:0 ≤ k∧k < 16
  ·rw [if_pos hk] at hc ⊢
   refine ⟨hk,?_⟩
   by_cases hst:((setAt c ss b).1.getD i zl).s=1
   ·rw [if_pos hst] at hc;cases hc
   ·rw [if_neg hst]
    rw [hb0,Option.getD_some]
    obtain ⟨z,hz,hzi,hzd⟩:=idx_at hn
    obtain ⟨hzl,hzb⟩:=isOf_iff.1 hzi
    have hsl:setOf c b < ss.length:=(List.getElem?_eq_some_iff.1 (hs b)).1
    rw [hzd]
    have hnew:∀ y,y ≠ b→isOf y ((z.word k.toNat x).state 3)=false:=fun y hy=>isOf_ne (by show z.b ≠ y;rw [hzb];exact fun e=>hy e.symm)
    funext y
    unfold upd
    by_cases hy:y=b
    ·subst hy
     rw [if_pos rfl,fF_row,setAt_set c ss _ _ _ hsl,if_pos rfl]
     refine inRow_same _ i _ _ (idx_lt hn) ?_ (fun j x' hj hx'=>?_)
     ·exact isOf_iff.2 ⟨rfl,hzb⟩
     ·obtain ⟨_,_,h3⟩:=List.findIdx?_eq_some_iff_getElem.1 hn
      obtain ⟨hjl,rfl⟩:=List.getElem?_eq_some_iff.1 hx'
      simpa using h3 j hj
    ·rw [if_neg hy]
     exact fF_set hs b i _ _ hnew (idx_lt hn) (fun x' hx' y hy=>by
      rw [hz] at hx';cases hx'
      exact isOf_ne (by rw [hzb];exact fun e=>hy e.symm)) y hy
  ·rw [if_neg hk] at hc;cases hc
end
theorem fF_empty (c:Cfg):fF c (empty c)=fun _=>none:=by
 funext b
 rw [fF_row]
 refine inRow_none _ _ (fun j x hx=>?_)
 have:x=zl:=by
  unfold setAt empty at hx
  rw [List.getElem?_replicate] at hx
  split at hx
  ·simp only [Option.getD_some,List.getElem?_replicate] at hx
   split at hx
   ·cases hx;rfl
   ·cases hx
  ·simp at hx
 rw [this];rfl
section
variable {c:Cfg} {ss:List St} (hs:∀ b,ss[setOf c b]?=some (setAt c ss b))
include hs
theorem fF_turn (b s:Int) (hc:(cturn c ss b s).2=0):(1 ≤ s∧s ≤ 3)∧(fF c ss b).isSome=true∧fF c (cturn c ss b s).1=upd (fF c ss) b (((fF c ss b).getD zl).state s):=by
 have hb0:=fF_row c ss b
 unfold inRow at hb0
 rw [find_idx] at hb0
 unfold cturn at hc ⊢
 cases hn:(setAt c ss b).1.findIdx? (isOf b) with
 | none=>rw [hn] at hc;cases hc
 | some i=>
  rw [hn] at hc hb0
  simp only [Option.map_some] at hc hb0 ⊢
  by_cases hk:1 ≤ s∧s ≤ 3
  ·rw [if_pos hk] at hc ⊢
   refine ⟨hk,by rw [hb0];rfl,?_⟩
   rw [hb0,Option.getD_some]
   obtain ⟨z,hz,hzi,hzd⟩:=idx_at hn
   obtain ⟨hzl,hzb⟩:=isOf_iff.1 hzi
   have hsl:setOf c b < ss.length:=(List.getElem?_eq_some_iff.1 (hs b)).1
   rw [hzd]
   have hnew:∀ y,y ≠ b→isOf y (z.state s)=false:=fun y hy=>isOf_ne (by show z.b ≠ y;rw [hzb];exact fun e=>hy e.symm)
   funext y
   unfold upd
   by_cases hy:y=b
   ·subst hy
    rw [if_pos rfl,fF_row,setAt_set c ss _ _ _ hsl,if_pos rfl]
    refine inRow_same _ i _ _ (idx_lt hn) ?_ (fun j x' hj hx'=>?_)
    ·refine isOf_iff.2 ⟨?_,hzb⟩
     unfold live
     have:s ≠ 0:=by omega
     simpa [Ln.state] using this
    ·obtain ⟨_,_,h3⟩:=List.findIdx?_eq_some_iff_getElem.1 hn
     obtain ⟨hjl,rfl⟩:=List.getElem?_eq_some_iff.1 hx'
     simpa using h3 j hj
   ·rw [if_neg hy]
    exact fF_set hs b i _ _ hnew (idx_lt hn) (fun x' hx' y hy=>by
     rw [hz] at hx';cases hx'
     exact isOf_ne (by rw [hzb];exact fun e=>hy e.symm)) y hy
  ·rw [if_neg hk] at hc;cases hc
omit hs in
theorem cturn_no (b s:Int) (hc:(cturn c ss b s).2 ≠ 0):(cturn c ss b s).1=ss:=by
 unfold cturn at hc ⊢
 cases hn:(setAt c ss b).1.findIdx? (isOf b) with
 | none=>rfl
 | some i=>
  rw [hn] at hc
  simp only [] at hc ⊢
  split
  ·rename_i hk
   rw [if_pos hk] at hc
   exact absurd rfl hc
  ·rfl
omit hs in
theorem cfind_fF (b:Int):cfind c ss b=((fF c ss b).getD zl,(fF c ss b).isSome):=by
 unfold fF
 cases h:(cfind c ss b).2
 ·simp only [Bool.false_eq_true,if_false,Option.getD_none,Option.isSome_none]
  have:(cfind c ss b).1=zl:=by
   unfold cfind at h ⊢
   cases hn:(setAt c ss b).1.findIdx? (isOf b) with
   | none=>rfl
   | some i=>rw [hn] at h;cases h
  exact Prod.ext this h
 ·simp only [if_true,Option.getD_some,Option.isSome_some]
  exact Prod.ext rfl h
omit hs in
theorem room_iff {b:Int} (hb:0 ≤ b∧b < 256):(cgoes c ss b).2=false ↔ ∃ l ∈ (setAt c ss b).1,live l=false ∨ l.b=b:=by
 unfold cgoes
 rw [if_pos hb]
 unfold wayFor
 constructor
 ·intro h
  cases hn:(setAt c ss b).1.findIdx? (isOf b) with
  | some i=>
   obtain ⟨l,hl,hi,_⟩:=idx_at hn
   exact ⟨l,List.mem_of_getElem? hl,.inr (isOf_iff.1 hi).2⟩
  | none=>
   rw [hn] at h
   simp only [] at h
   cases hf:(setAt c ss b).1.findIdx? isFree with
   | some i=>
    obtain ⟨l,hl,hi,_⟩:=idx_at hf
    exact ⟨l,List.mem_of_getElem? hl,.inl (isFree_iff.1 hi)⟩
   | none=>rw [hf] at h;simp at h
 ·rintro ⟨l,hl,h⟩
  obtain ⟨j,hj⟩:=List.getElem?_of_mem hl
  cases hn:(setAt c ss b).1.findIdx? (isOf b) with
  | some i=>rfl
  | none=>
   simp only []
   cases hf:(setAt c ss b).1.findIdx? isFree with
   | some i=>rfl
   | none=>
    exfalso
    have h1:=idx_no hf j l hj
    have h2:=idx_no hn j l hj
    have h3:live l=true:=by
     cases hv:live l
     ·rw [isFree_iff.2 hv] at h1;cases h1
     ·rfl
    rcases h with h | h
    ·rw [h3] at h;cases h
    ·rw [isOf_iff.2 ⟨h3,h⟩] at h2;cases h2
omit hs in
theorem cput_room (l:Ln) (hm:l.may) (hr:(cgoes c ss l.b).2=false):(cput c ss l).2=0:=by
 have hr':=hr
 unfold cgoes at hr'
 rw [if_pos hm.1] at hr'
 unfold cput
 rw [if_pos hm]
 cases hw:wayFor (setAt c ss l.b).1 l.b with
 | some i=>rfl
 | none=>rw [hw] at hr';simp at hr'
theorem room_set {b:Int} (hb:0 ≤ b∧b < 256) (y:Int) (i m:Nat) (l:Ln) (hl:∀ x,(setAt c ss y).1[i]?=some x→live l=false ∨ l.b=x.b) (hlv:∀ x,(setAt c ss y).1[i]?=some x→live x=true) (hr:(cgoes c ss b).2=false) :
  (cgoes c (ss.set (setOf c y) ((setAt c ss y).1.set i l,m)) b).2=false:=by
 have hsl:setOf c y < ss.length:=(List.getElem?_eq_some_iff.1 (hs y)).1
 have hs':∀ b',(ss.set (setOf c y) ((setAt c ss y).1.set i l,m))[setOf c b']?=some (setAt c (ss.set (setOf c y) ((setAt c ss y).1.set i l,m)) b'):=fun b'=>by
  rw [setAt_set c ss y b' _ hsl]
  by_cases h:setOf c b'=setOf c y
  ·rw [if_pos h,h,List.getElem?_set_self hsl]
  ·rw [if_neg h,List.getElem?_set_ne (fun e=>h e.symm)];exact hs b'
 rw [room_iff hb]
 obtain ⟨x,hx,hw⟩:=(room_iff hb).1 hr
 rw [setAt_set c ss y b _ hsl]
 by_cases h:setOf c b=setOf c y
 ·rw [if_pos h]
  have e:setAt c ss b=setAt c ss y:=by unfold setAt;rw [h]
  rw [e] at hx
  obtain ⟨j,hj⟩:=List.getElem?_of_mem hx
  by_cases hji:j=i
  ·subst hji
   have hlt:=(List.getElem?_eq_some_iff.1 hj).1
   refine ⟨l,List.mem_of_getElem? (List.getElem?_set_self hlt),?_⟩
   rcases hl x hj with h1 | h1
   ·exact .inl h1
   ·rcases hw with h2 | h2
    ·rw [hlv x hj] at h2;cases h2
    ·exact .inr (h1.trans h2)
  ·refine ⟨x,List.mem_of_getElem? (i:=j) ?_,hw⟩
   rw [List.getElem?_set_ne (fun e=>hji e.symm)];exact hj
 ·rw [if_neg h]
  exact ⟨x,hx,hw⟩
theorem room_mem {b:Int} (hb:0 ≤ b∧b < 256) (y:Int) (m:Nat) (hr:(cgoes c ss b).2=false):(cgoes c (ss.set (setOf c y) ((setAt c ss y).1,m)) b).2=false:=by
 have hsl:setOf c y < ss.length:=(List.getElem?_eq_some_iff.1 (hs y)).1
 have hs':∀ b',(ss.set (setOf c y) ((setAt c ss y).1,m))[setOf c b']?=some (setAt c (ss.set (setOf c y) ((setAt c ss y).1,m)) b'):=fun b'=>by
  rw [setAt_set c ss y b' _ hsl]
  by_cases h:setOf c b'=setOf c y
  ·rw [if_pos h,h,List.getElem?_set_self hsl]
  ·rw [if_neg h,List.getElem?_set_ne (fun e=>h e.symm)];exact hs b'
 rw [room_iff hb]
 obtain ⟨x,hx,hw⟩:=(room_iff hb).1 hr
 rw [setAt_set c ss y b _ hsl]
 by_cases h:setOf c b=setOf c y
 ·rw [if_pos h]
  have e:setAt c ss b=setAt c ss y:=by unfold setAt;rw [h]
  exact ⟨x,e ▸ hx,hw⟩
 ·rw [if_neg h]
  exact ⟨x,hx,hw⟩
theorem room_use {b:Int} (hb:0 ≤ b∧b < 256) (y:Int) (hr:(cgoes c ss b).2=false):(cgoes c (cuse c ss y).1 b).2=false:=by
 unfold cuse
 cases (setAt c ss y).1.findIdx? (isOf y) with
 | none=>exact hr
 | some i=>exact room_mem hs hb y _ hr
theorem room_drop {b:Int} (hb:0 ≤ b∧b < 256) (y:Int) (hr:(cgoes c ss b).2=false):(cgoes c (cdrop c ss y).1 b).2=false:=by
 unfold cdrop
 cases hn:(setAt c ss y).1.findIdx? (isOf y) with
 | none=>exact hr
 | some i=>
  obtain ⟨z,hz,hzi,_⟩:=idx_at hn
  exact room_set hs hb y i _ zl (fun x hx=> .inl rfl) (fun x hx=>by rw [hz] at hx;cases hx;exact (isOf_iff.1 hzi).1) hr
theorem room_turn {b:Int} (hb:0 ≤ b∧b < 256) (y s:Int) (hr:(cgoes c ss b).2=false):(cgoes c (cturn c ss y s).1 b).2=false:=by
 unfold cturn
 cases hn:(setAt c ss y).1.findIdx? (isOf y) with
 | none=>exact hr
 | some i=>
  obtain ⟨z,hz,hzi,hzd⟩:=idx_at hn
  simp only []
  split
  ·rw [hzd]
   exact room_set hs hb y i _ _ (fun x hx=>by rw [hz] at hx;cases hx;exact .inr rfl) (fun x hx=>by rw [hz] at hx;cases hx;exact (isOf_iff.1 hzi).1) hr
  ·exact hr
theorem room_write {b:Int} (hb:0 ≤ b∧b < 256) (y k x:Int) (hr:(cgoes c ss b).2=false):(cgoes c (cwrite c ss y k x).1 b).2=false:=by
 unfold cwrite
 cases hn:(setAt c ss y).1.findIdx? (isOf y) with
 | none=>exact hr
 | some i=>
  obtain ⟨z,hz,hzi,hzd⟩:=idx_at hn
  simp only []
  split
  ·split
   ·exact hr
   ·rw [hzd]
    exact room_set hs hb y i _ _ (fun x hx=>by rw [hz] at hx;cases hx;exact .inr rfl) (fun x hx=>by rw [hz] at hx;cases hx;exact (isOf_iff.1 hzi).1) hr
  ·exact hr
end
structure Shp (c:Cfg) (ss:List St):Prop where
 may:c.may
 len:(ss.length:Int)=c.se
 wid:∀ p ∈ ss,(p.1.length:Int)=c.wa
theorem Shp.at_ {c:Cfg} {ss:List St} (h:Shp c ss) (b:Int):ss[setOf c b]?=some (setAt c ss b):=by
 have h1:=h.may.set_lt b
 have h2:=h.len
 have hl:setOf c b < ss.length:=by omega
 unfold setAt
 rw [List.getElem?_eq_getElem hl];rfl
theorem Shp.set {c:Cfg} {ss:List St} (h:Shp c ss) (b:Int) (row:List Ln) (m:Nat) (hr:row.length=(setAt c ss b).1.length):Shp c (ss.set (setOf c b) (row,m)):=by
 refine ⟨h.may,by rw [List.length_set];exact h.len,fun p hp=>?_⟩
 rcases List.mem_or_eq_of_mem_set hp with hp | rfl
 ·exact h.wid p hp
 ·show (row.length:Int)=c.wa
  rw [hr];exact h.wid _ (List.mem_of_getElem? (h.at_ b))
theorem Shp.cput {c:Cfg} {ss:List St} (h:Shp c ss) (l:Ln):Shp c (cput c ss l).1:=by
 unfold kk.cput
 split
 ·split
  ·exact h
  ·exact h.set _ _ _ (by simp)
 ·exact h
theorem Shp.cdrop {c:Cfg} {ss:List St} (h:Shp c ss) (b:Int):Shp c (cdrop c ss b).1:=by
 unfold kk.cdrop
 split
 ·exact h
 ·exact h.set _ _ _ (by simp)
theorem Shp.cuse {c:Cfg} {ss:List St} (h:Shp c ss) (b:Int):Shp c (cuse c ss b).1:=by
 unfold kk.cuse
 split
 ·exact h
 ·exact h.set _ _ _ rfl
theorem Shp.cturn {c:Cfg} {ss:List St} (h:Shp c ss) (b s:Int):Shp c (cturn c ss b s).1:=by
 unfold kk.cturn
 split
 ·exact h
 ·split
  ·exact h.set _ _ _ (by simp)
  ·exact h
theorem Shp.cwrite {c:Cfg} {ss:List St} (h:Shp c ss) (b k x:Int):Shp c (cwrite c ss b k x).1:=by
 unfold kk.cwrite
 split
 ·exact h
 ·split
  ·split
   ·exact h
   ·exact h.set _ _ _ (by simp)
  ·exact h
theorem Shp.vc_lt {c:Cfg} {ss:List St} (h:Shp c ss) (b:Int):vc (setAt c ss b).2 (setAt c ss b).1.length < (setAt c ss b).1.length:=by
 have h1:=h.wid _ (List.mem_of_getElem? (h.at_ b))
 have h2:=h.may.ways
 exact kk.vc_lt _ _ (by omega)
end Go.Proofs.YtcoimipgilkmbaaGreatDoor.kk
