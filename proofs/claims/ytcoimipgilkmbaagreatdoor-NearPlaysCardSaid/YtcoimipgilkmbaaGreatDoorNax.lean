/-
  A note as cells, loads and stores of one, the model's '==' at two notes: definitions and laws. No condition but the bounds that each theorem names.
  What isKind, isCore, isState, includes, coreOf, Net and the document's Net, toHome, stamped answer: contracts. No condition but the bounds that each theorem names.
  What 'used' answers: contracts. No condition.
  What May answers: contract. Condition: the table of kinds lies in its variable as the program's text has it.
  The document's rule for a note, as a list of conditions. No condition.
-/
import Derived.Test.YtcoimipgilkmbaaGreatDoorTl
import Derived.Test.YtcoimipgilkmbaaGreatDoorPl
import Derived.Laws.StructEq
import Derived.Deep.MidRow
import Derived.Deep.WholeRow
import Derived.Deep.RegionLaw
import Derived.Deep.RegionHeld
import Derived.Below
namespace Go.Proofs.YtcoimipgilkmbaaGreatDoor.tt
set_option linter.unusedVariables false
set_option linter.unusedSimpArgs false
set_option maxRecDepth 1000000
set_option maxHeartbeats 16000000
open Go Go.ChangeShapes Go.WideShapes Go.ChangeAt Go.RowKit
theorem grown_drewN {w w':World} {own:Option Nat} (h:w.grownBy w' own) (n:Nat):w.grownBy (w'.drewN n) own:=⟨h.os,h.tape,h.output,h.size,h.block⟩
theorem below_of {w w':World} (h:w.grownBy w' none):Below w.heap.size w w':=⟨h.os,h.tape,h.output,h.size,fun k hk=>h.block k hk (by simp)⟩
def U (x:Int):Value:= .int .u32 x
structure Nt where
  k:Int
  f:Int
  t:Int
  b:Int
  st:Int
  s:Int
  h:Bool
  q:Bool
  d:List Int
  hd:d.length=16
deriving DecidableEq
def zd:List Int:=List.replicate 16 0
def bare (k f t b st s:Int) (h q:Bool):Nt:=⟨k,f,t,b,st,s,h,q,zd,rfl⟩
def zn:Nt:=bare 0 0 0 0 0 0 false false
theorem Nt.ext {x y:Nt} (h1:x.k=y.k) (h2:x.f=y.f) (h3:x.t=y.t) (h4:x.b=y.b) (h5:x.st=y.st) (h6:x.s=y.s) (h7:x.h=y.h) (h8:x.q=y.q) (h9:x.d=y.d):x=y:=by
  obtain ⟨_,_,_,_,_,_,_,_,_,_⟩:=x;obtain ⟨_,_,_,_,_,_,_,_,_,_⟩:=y;simp at *;simp_all
def nt (n:Nt):List Value:= .int .u8 n.k :: .int .i64 n.f :: .int .i64 n.t :: .int .i64 n.b :: .int .u64 n.st :: .int .u8 n.s :: .bool n.h :: .bool n.q :: n.d.map U
def na (n:Nt):Array Value:=(nt n).toArray
def row (x:List Int):Array Value:=(x.map U).toArray
theorem nt_len (n:Nt):(nt n).length=24:=by simp [nt,n.hd]
theorem na_size (n:Nt):(na n).size=24:=by simp [na,nt_len]
theorem nt_one (n:Nt):∀ v ∈ nt n,v.oneCell'=true:=by
  intro v hv
  simp [nt,U] at hv
  rcases hv with rfl | rfl | rfl | rfl | rfl | rfl | rfl | rfl | ⟨x,_,rfl⟩ <;> rfl
theorem na_one (n:Nt):(na n).all (·.oneCell')=true:=all_oneCell_toArray (nt_one n)
theorem nt_d (n:Nt) (k:Nat):(nt n)[8 + k]?=(n.d[k]?).map U:=by
  rw [Nat.add_comm];simp [nt]
theorem info31:(Tryz.prog.info? 37).map (·.size)=some 24:=by kernel_rfl
theorem info31' (n:Nt):(Tryz.prog.info? 37).map (·.size)=some (nt n).length:=by rw [nt_len];exact info31
theorem info31a (n:Nt):(Tryz.prog.info? 37).map (·.size)=some (na n).size:=by rw [na_size];exact info31
theorem bare_na (k f t b st s:Int) (h q:Bool):na (bare k f t b st s h q)=#[.int .u8 k,.int .i64 f,.int .i64 t,.int .i64 b,.int .u64 st,.int .u8 s,.bool h,.bool q,.int .u32 0,.int .u32 0,.int .u32 0,.int .u32 0,.int .u32 0,.int .u32 0,.int .u32 0,.int .u32 0,.int .u32 0,.int .u32 0,.int .u32 0,.int .u32 0,.int .u32 0,.int .u32 0,.int .u32 0,.int .u32 0]:=rfl
theorem tyne {w:World} {k q:Nat} {c1 c2:Array Value} {t1 t2:TypeId} {f1 f2:Nat × Nat} (h1:w.heap[k]?=some (.cells c1 t1 f1)) (h2:w.heap[q]?=some (.cells c2 t2 f2)) (h:t1 ≠ t2):k ≠ q:=fun e=>by
  subst e;rw [h1] at h2;cases h2;exact h rfl
theorem add_lit (g off j:Nat):(⟨g,off,none⟩:Addr).add j=⟨g,off + j,none⟩:=by unfold Addr.add;split <;> simp_all
theorem lt_of {w:World} {k:Nat} {o:Obj} (h:w.heap[k]?=some o):k < w.heap.size:=(Array.getElem?_eq_some_iff.1 h).1
theorem range_grown {w w':World} {g o:Nat} {xs:List Value} (h:w.rangeAt g o xs) {own:Option Nat} (hg:w.grownBy w' own) (hn:some g ≠ own):w'.rangeAt g o xs:=fun j v hv=>hg.cell (h j v hv) hn
theorem range_of {w:World} {g:Nat} {n:Nt} {t:TypeId} (h:w.heap[g]?=some (.cells (na n) t (0,0))):w.rangeAt g 0 (nt n):=fun j v hv=>by
  rw [Nat.zero_add,cell_of_row _ _ j _ _ _ h]
  simpa [na] using hv
theorem cell_at {w:World} {g:Nat} {n:Nt} (h:w.rangeAt g 0 (nt n)) (j:Nat) (v:Value) (hv:(nt n)[j]?=some v):w.cell? ⟨g,j,none⟩=some v:=by
  have:=h j v hv;rwa [Nat.zero_add] at this
theorem there_of {w:World} {g:Nat} {c:Array Value} {t:TypeId} (h:w.heap[g]?=some (.cells c t (0,0))) (hc:c.size=24):w.there g 0 24:=fun i hi=>by
  refine ⟨?_,frozen_of_row _ _ _ _ _ h⟩
  rw [cell_of_row _ _ _ _ _ _ h,Nat.zero_add,Array.getElem?_eq_getElem (by omega)];rfl
theorem setCells_rest (b:Nat):∀ (vs:List Value) (o:Nat) (w:World),(w.setCells b o vs).os=w.os∧(w.setCells b o vs).tape=w.tape∧(w.setCells b o vs).output=w.output∧(w.setCells b o vs).heap.size=w.heap.size
  | [],o,w=>⟨rfl,rfl,rfl,rfl⟩
  | v :: r,o,w=>by
    obtain ⟨h1,h2,h3,h4⟩:=setCells_rest b r (o + 1) (w.setCell ⟨b,o,none⟩ v)
    exact ⟨h1,h2,h3,by rw [World.setCells,h4];simp [World.setCell]⟩
theorem heap_setCells_other (b:Nat) (k:Nat) (hk:k ≠ b):∀ (vs:List Value) (o:Nat) (w:World),(w.setCells b o vs).heap[k]?=w.heap[k]?
  | [],_,_=>rfl
  | v :: r,o,w=>by
    rw [World.setCells,heap_setCells_other b k hk r (o + 1)]
    exact Below.heap_setCell _ _ _ _ (by simpa using hk)
theorem grown_setCells (w:World) (b o:Nat) (vs:List Value):w.grownBy (w.setCells b o vs) (some b):=by
  obtain ⟨h1,h2,h3,h4⟩:=setCells_rest b vs o w
  exact ⟨h1,h2,h3,by omega,fun k _ hk=>heap_setCells_other b k (fun e=>hk (by rw [e])) _ _ _⟩
theorem grown_setRow {w w1:World} (h:w.grownBy w1 none) (g:Nat) (hg:w.heap.size ≤ g) (c:Array Value):w.grownBy (w1.setRow g c) none:=
  ⟨h.os,h.tape,h.output,by have:=h.size;simp;omega,fun k hk hn=>(setRow_other _ _ _ _ (by omega)).trans (h.block k hk hn)⟩
theorem grown_new {w w1 w2:World} {g:Nat} (h:w.grownBy w1 none) (hg:w.heap.size ≤ g) (k:w1.grownBy w2 (some g)):w.grownBy w2 none:=
  ⟨k.os.trans h.os,k.tape.trans h.tape,k.output.trans h.output,Nat.le_trans h.size k.size,fun i hi hn=>(k.block i (Nat.lt_of_lt_of_le hi h.size) (by simp;omega)).trans (h.block i hi hn)⟩
section
variable {w:World} {ops:Array Oper} {rest:List Oper} {a:Act} {Q:Exit→Act→World→Prop} {dst:Option Tmp} {ty:TypeId} {pos:String} {after:Array Edge}
theorem load_nt (n:Nt) (x:Tmp) (g:Nat) (hx:a.eval (.tmp x) = .pointer (some ⟨g,0,none⟩)) (hg:w.rangeAt g 0 (nt n))
    (h:wpList Tryz.prog ops Q rest (a.put dst (.agg (na n))) w):wpList Tryz.prog ops Q (⟨dst,.load 37 (.tmp x),ty,pos,after,none⟩ :: rest) a w:=
  wpList_load_mid rfl 37 (.tmp x) rfl g 0 hx (nt n) _ hg Tryz.underlying37 rfl (info31' n) h
theorem store_any (n:Nt) (c:Array Value) (x y:Tmp) (g:Nat) (hx:a.eval (.tmp x) = .pointer (some ⟨g,0,none⟩)) (hy:a.eval (.tmp y) = .agg (na n)) (hg:w.heap[g]?=some (.cells c 37 (0,0))) (hc:c.size=24)
    (h:wpList Tryz.prog ops Q rest (a.put dst undef) (w.setRow g (na n))):wpList Tryz.prog ops Q (⟨dst,.store 37 (.tmp x) (.tmp y),ty,pos,after,none⟩ :: rest) a w:=
  wpList_store_row rfl 37 (.tmp x) (.tmp y) rfl g (na n) hx hy 37 _ hg (info31a n) (by rw [na_size,hc]) (na_one n) h
theorem store_new (n:Nt) (c:Array Value) (x y:Tmp) (hx:a.eval (.tmp x) = .pointer (some ⟨w.heap.size,0,none⟩)) (hy:a.eval (.tmp y) = .agg (na n)) (hc:c.size=24)
    (h:wpList Tryz.prog ops Q rest (a.put dst undef) (w.alloc (.cells (na n) 37))):wpList Tryz.prog ops Q (⟨dst,.store 37 (.tmp x) (.tmp y),ty,pos,after,none⟩ :: rest) a (w.alloc (.cells c 37)):=by
  refine wpList_store_row rfl 37 (.tmp x) (.tmp y) rfl w.heap.size (na n) hx hy 37 _ (heap_alloc_new _ _) (info31a n) (by rw [na_size,hc]) (na_one n) ?_
  rw [World.setRow_alloc_new];exact h
end
theorem named:∃ (t:TypeId) (m:Nat),Hid (Op.load 37=Op.load t)∧(∀ w,(isAgg t).run Tryz.prog w = .ok true w)∧(∀ w,(sizeOf t).run Tryz.prog w = .ok m w) ∧
    ∀ (g:Nat) (n:Nt) (w:World),w.rangeAt g 0 (nt n)→(loadCellsFrom ⟨g,0,none⟩ 0 m #[]).run Tryz.prog w = .ok (na n) w:=
  ⟨37,24,qh rfl,Tryz.isAgg37,Tryz.sizeOf37,fun g n w h=>by
    have:=run_loadCells_list (P:=Tryz.prog) w ⟨g,0,none⟩ (nt n) (fun j v hv=>by rw [add_lit];exact h j v hv)
    simpa [loadCells,nt_len,na] using this⟩
theorem all_range_eqU:∀ (xs ys:List Int),xs.length=ys.length→((List.range xs.length).all fun i=>xs.getD i 0 == ys.getD i 0)=(xs == ys)
  | [],[],_=>rfl
  | x :: xs,y :: ys,h=>by
    have ih:=all_range_eqU xs ys (by simpa using h)
    rw [List.length_cons,List.range_succ_eq_map,List.all_cons,List.all_map]
    simp only [List.getD_cons_zero,Function.comp_def,List.getD_cons_succ,ih]
    simp [List.cons_beq_cons]
  | [],_ :: _,h=>by simp at h
  | _ :: _,[],h=>by simp at h
theorem eq29 (w:World) (d:Nat) (xs ys:List Int) (hx:xs.length=16) (hy:ys.length=16) :
    (Op.equalIn (d + 2) 35 (.agg (row xs)) (.agg (row ys))).run Tryz.prog w = .ok (xs == ys) w:=by
  rw [← all_range_eqU xs ys (hx.trans hy.symm),hx,List.range_eq_range',Op.equalIn]
  simp only [Sem.run_bind,run_underlying Tryz.underlying35,Result.andThen_ok,Tryz.sizeOf33,Std.Legacy.Range.forIn_eq_forIn_range',Std.Legacy.Range.size,Nat.sub_zero,Nat.add_sub_cancel,Nat.div_one]
  have hl:∀ i ∈ List.range' 0 16 1,i < 16:=fun i hi=>by simpa using (List.mem_range'_1.1 hi).2
  generalize List.range' 0 16 1=l at hl ⊢
  induction l with
  | nil=>simp
  | cons i l ih=>
    have hi:i < 16:=hl i (by simp)
    have px:(part 33 (row xs) (i * 1)).run Tryz.prog w = .ok (U (xs.getD i 0)) w:=by
      simp [part,isAgg,run_underlying Tryz.underlying33,row,List.getD,List.getElem?_eq_getElem (show i < xs.length by omega)]
    have py:(part 33 (row ys) (i * 1)).run Tryz.prog w = .ok (U (ys.getD i 0)) w:=by
      simp [part,isAgg,run_underlying Tryz.underlying33,row,List.getD,List.getElem?_eq_getElem (show i < ys.length by omega)]
    have pe:(Op.equalIn (d + 1) 33 (U (xs.getD i 0)) (U (ys.getD i 0))).run Tryz.prog w = .ok (xs.getD i 0 == ys.getD i 0) w:=by
      rw [U,U,run_equalIn_int w d 33 .u32 .u32 _ _ Tryz.underlying33]
    simp only [List.forIn_cons,Sem.run_bind,px,py,pe,Result.andThen_ok,List.all_cons]
    cases hb:(xs.getD i 0 == ys.getD i 0)
    · simp
    · simp only [Bool.not_true,Bool.false_eq_true,if_false,Sem.run_pure,Result.andThen_ok,Bool.true_and]
      exact ih fun j hj=>hl j (by simp [hj])
theorem eq29k (k:Nat) (hk:2 ≤ k) (w:World) (xs ys:List Int) (hx:xs.length=16) (hy:ys.length=16):(Op.equalIn k 35 (.agg (row xs)) (.agg (row ys))).run Tryz.prog w = .ok (xs == ys) w:=by
  obtain ⟨d,rfl⟩:∃ d,k=d + 2:=⟨k - 2,by omega⟩
  exact eq29 w d xs ys hx hy
theorem eqIk (k:Nat) (hk:1 ≤ k) (w:World) (t:TypeId) (q:IntKind) (a b:Int) (h:Tryz.prog.underlying t=some (.int q)):(Op.equalIn k t (.int q a) (.int q b)).run Tryz.prog w = .ok (a == b) w:=by
  obtain ⟨d,rfl⟩:∃ d,k=d + 1:=⟨k - 1,by omega⟩
  exact run_equalIn_int w d t q q a b h
theorem eqBk (k:Nat) (hk:1 ≤ k) (w:World) (a b:Bool):(Op.equalIn k 4 (.bool a) (.bool b)).run Tryz.prog w = .ok (a == b) w:=by
  obtain ⟨d,rfl⟩:∃ d,k=d + 1:=⟨k - 1,by omega⟩
  simp [Op.equalIn,run_underlying Tryz.underlying4]
theorem part29 (w:World) (n:Nt):(part 35 (na n) 8).run Tryz.prog w = .ok (.agg (row n.d)) w:=by
  have h:(na n).extract 8 24=row n.d:=by
    apply Array.ext'
    simp [na,nt,row]
    rw [List.take_of_length_le (by simp [n.hd])]
  have h29:=Tryz.isAgg35
  have hs:=Tryz.sizeOf35
  simp [part,h29,hs,h]
theorem stood31:Tryz.prog.stoodInHeld 37=false:=by kernel_rfl
theorem fields31:Tryz.prog.underlying 37=some (.struct (Tryz.prog.fieldsOf 37)):=by kernel_rfl
theorem eq31k (k:Nat) (hk:3 ≤ k) (x y:Nt) (w:World):(Op.equalIn k 37 (.agg (na x)) (.agg (na y))).run Tryz.prog w = .ok (decide (x=y)) w:=by
  obtain ⟨d,rfl⟩:∃ d,k=d + 1:=⟨k - 1,by omega⟩
  rw [run_equalIn_agg w d 37 _ _ fields31 stood31]
  simp only [Program.fieldsOf,Tryz.underlying37]
  have p0:∀ n:Nt,(part 5 (na n) 0).run Tryz.prog w = .ok (.int .u8 n.k) w:=fun l=>by simp [part,isAgg,run_underlying Tryz.underlying5,na,nt]
  have p1:∀ n:Nt,(part 3 (na n) 1).run Tryz.prog w = .ok (.int .i64 n.f) w:=fun l=>by simp [part,isAgg,run_underlying Tryz.underlying3,na,nt]
  have p2:∀ n:Nt,(part 3 (na n) 2).run Tryz.prog w = .ok (.int .i64 n.t) w:=fun l=>by simp [part,isAgg,run_underlying Tryz.underlying3,na,nt]
  have p3:∀ n:Nt,(part 3 (na n) 3).run Tryz.prog w = .ok (.int .i64 n.b) w:=fun l=>by simp [part,isAgg,run_underlying Tryz.underlying3,na,nt]
  have p4:∀ n:Nt,(part 31 (na n) 4).run Tryz.prog w = .ok (.int .u64 n.st) w:=fun l=>by simp [part,isAgg,run_underlying Tryz.underlying31,na,nt]
  have p5:∀ n:Nt,(part 32 (na n) 5).run Tryz.prog w = .ok (.int .u8 n.s) w:=fun l=>by simp [part,isAgg,run_underlying Tryz.underlying32,na,nt]
  have p6:∀ n:Nt,(part 4 (na n) 6).run Tryz.prog w = .ok (.bool n.h) w:=fun l=>by simp [part,isAgg,run_underlying Tryz.underlying4,na,nt]
  have p7:∀ n:Nt,(part 4 (na n) 7).run Tryz.prog w = .ok (.bool n.q) w:=fun l=>by simp [part,isAgg,run_underlying Tryz.underlying4,na,nt]
  have p8:=part29 w
  have e0:=eqIk d (by omega) w 5 .u8 x.k y.k Tryz.underlying5
  have e1:=eqIk d (by omega) w 3 .i64 x.f y.f Tryz.underlying3
  have e2:=eqIk d (by omega) w 3 .i64 x.t y.t Tryz.underlying3
  have e3:=eqIk d (by omega) w 3 .i64 x.b y.b Tryz.underlying3
  have e4:=eqIk d (by omega) w 31 .u64 x.st y.st Tryz.underlying31
  have e5:=eqIk d (by omega) w 32 .u8 x.s y.s Tryz.underlying32
  have e6:=eqBk d (by omega) w x.h y.h
  have e7:=eqBk d (by omega) w x.q y.q
  have e8:=eq29k d (by omega) w x.d y.d x.hd y.hd
  simp [Op.eqFields,Sem.run_bind,p0,p1,p2,p3,p4,p5,p6,p7,p8,e0,e1,e2,e3,e4,e5,e6,e7,e8]
  have hx:(x=y) ↔ (x.k=y.k∧x.f=y.f∧x.t=y.t∧x.b=y.b∧x.st=y.st∧x.s=y.s∧x.h=y.h∧x.q=y.q∧x.d=y.d):=
    ⟨fun h=>by subst h;simp,fun ⟨h1,h2,h3,h4,h5,h6,h7,h8,h9⟩=>Nt.ext h1 h2 h3 h4 h5 h6 h7 h8 h9⟩
  by_cases h1:x.k=y.k
  · by_cases h2:x.f=y.f
    · by_cases h3:x.t=y.t
      · by_cases h4:x.b=y.b
        · by_cases h5:x.st=y.st
          · by_cases h6:x.s=y.s
            · by_cases h7:x.h=y.h
              · by_cases h8:x.q=y.q
                · by_cases h9:x.d=y.d <;> simp [hx,h1,h2,h3,h4,h5,h6,h7,h8,h9]
                · simp [hx,h1,h2,h3,h4,h5,h6,h7,h8]
              · simp [hx,h1,h2,h3,h4,h5,h6,h7]
            · simp [hx,h1,h2,h3,h4,h5,h6]
          · simp [hx,h1,h2,h3,h4,h5]
        · simp [hx,h1,h2,h3,h4]
      · simp [hx,h1,h2,h3]
    · simp [hx,h1,h2]
  · simp [hx,h1]
theorem q31n (x y:Nt) (w:World):(binOp .neq 37 (.agg (na x)) (.agg (na y))).run Tryz.prog w = .ok (.bool (!decide (x=y))) w:=by
  rw [run_neq_struct,eq31k 10000 (by omega) x y w]
  rfl
theorem eql29k (xs ys:List Int) (hx:xs.length=16) (hy:ys.length=16) (w:World):(Op.equalIn 10000 35 (.agg (row xs)) (.agg (row ys))).run Tryz.prog w = .ok (xs == ys) w:=eq29k 10000 (by omega) w xs ys hx hy
end Go.Proofs.YtcoimipgilkmbaaGreatDoor.tt
namespace Go.Proofs.YtcoimipgilkmbaaGreatDoor.tt
set_option linter.unusedVariables false
set_option linter.unusedSimpArgs false
set_option maxRecDepth 1000000
set_option maxHeartbeats 16000000
open Go Go.ChangeShapes Go.WideShapes Go.ChangeAt Go.RowKit
theorem isKind_any (k:Int) (w:World):Calls Tryz.prog 130 #[.int .u8 k] w fun e w'=>e = .returned (.bool (decide (1 ≤ k∧k ≤ 11)))∧w'=w:=by
  by_cases h1:1 ≤ k
  · by_cases h2:k ≤ 11
    · rw [decide_eq_true ⟨h1,h2⟩]
      go_enter Tryz.func130,Tryz.ntmps130
      go_wp2
      go_ret
      exact ⟨rfl,rfl⟩
    · rw [decide_eq_false (fun h=>h2 h.2)]
      go_enter Tryz.func130,Tryz.ntmps130
      go_wp2
      go_ret
      exact ⟨rfl,rfl⟩
  · rw [decide_eq_false (fun h=>h1 h.1)]
    go_enter Tryz.func130,Tryz.ntmps130
    go_wp2
    go_ret
    exact ⟨rfl,rfl⟩
theorem isCore_any (k:Int) (w:World):Calls Tryz.prog 132 #[.int .i64 k] w fun e w'=>e = .returned (.bool (decide (0 ≤ k∧k < 16)))∧w'=w:=by
  by_cases h1:0 ≤ k
  · by_cases h2:k < 16
    · rw [decide_eq_true ⟨h1,h2⟩]
      go_enter Tryz.func132,Tryz.ntmps132
      go_wp2
      go_ret
      exact ⟨rfl,rfl⟩
    · rw [decide_eq_false (fun h=>h2 h.2)]
      go_enter Tryz.func132,Tryz.ntmps132
      go_wp2
      go_ret
      exact ⟨rfl,rfl⟩
  · rw [decide_eq_false (fun h=>h1 h.1)]
    go_enter Tryz.func132,Tryz.ntmps132
    go_wp2
    go_ret
    exact ⟨rfl,rfl⟩
theorem isState_any (k:Int) (w:World):Calls Tryz.prog 135 #[.int .u8 k] w fun e w'=>e = .returned (.bool (decide (1 ≤ k∧k ≤ 3)))∧w'=w:=by
  by_cases h1:1 ≤ k
  · by_cases h2:k ≤ 3
    · rw [decide_eq_true ⟨h1,h2⟩]
      go_enter Tryz.func135,Tryz.ntmps135
      go_wp2
      go_ret
      exact ⟨rfl,rfl⟩
    · rw [decide_eq_false (fun h=>h2 h.2)]
      go_enter Tryz.func135,Tryz.ntmps135
      go_wp2
      go_ret
      exact ⟨rfl,rfl⟩
  · rw [decide_eq_false (fun h=>h1 h.1)]
    go_enter Tryz.func135,Tryz.ntmps135
    go_wp2
    go_ret
    exact ⟨rfl,rfl⟩
def uses (k:Int):Int:=
  if k=1 ∨ k=2 ∨ k=10 then 3 else if k=3 then 25 else if k=4 ∨ k=5 ∨ k=7 then 2 else if k=6 then 20 else if k=9 then 33 else if k=11 then 1 else 0
def us7 (u:Int):Prop:=u=0 ∨ u=1 ∨ u=2 ∨ u=3 ∨ u=20 ∨ u=25 ∨ u=33
theorem uses7 (k:Int):us7 (uses k):=by
  unfold uses us7;split;· simp
  split;· simp
  split;· simp
  split;· simp
  split;· simp
  split <;> simp
theorem inc_any (u x:Int) (w:World):Calls Tryz.prog 134 #[.int .u8 u,.int .u8 x] w fun e w'=>e = .returned (.bool (!(bits .and .u8 u x == 0)))∧w'=w:=by
  go_enter Tryz.func134,Tryz.ntmps134
  go_wp2
  go_ret
  exact ⟨rfl,rfl⟩
theorem inc (u x:Int) (b:Bool) (h:(!(bits .and .u8 u x == 0))=b) (w:World):Calls Tryz.prog 134 #[.int .u8 u,.int .u8 x] w fun e w'=>e = .returned (.bool b)∧w'=w:=by
  rw [← h];exact inc_any u x w
def net (k:Int):Int:=if 1 ≤ k∧k ≤ 11 then (if k ≤ 3 then 0 else if k ≤ 5 then 1 else 2) else -1
theorem kinds11 {k:Int} (h:1 ≤ k∧k ≤ 11):k=1 ∨ k=2 ∨ k=3 ∨ k=4 ∨ k=5 ∨ k=6 ∨ k=7 ∨ k=8 ∨ k=9 ∨ k=10 ∨ k=11:=by omega
def tH (k:Int):Bool:=decide (1 ≤ k∧k ≤ 3 ∨ 9 ≤ k∧k ≤ 11)
def sT (k:Int):Bool:=decide (k=1 ∨ k=2 ∨ k=4 ∨ k=5 ∨ k=7 ∨ k=10)
theorem toHome_any (k:Int) (h:1 ≤ k∧k ≤ 11) (w:World):Calls Tryz.prog 174 #[.int .u8 k] w fun e w'=>e = .returned (.bool (tH k))∧w'=w:=by
  rcases kinds11 h with rfl | rfl | rfl | rfl | rfl | rfl | rfl | rfl | rfl | rfl | rfl
  all_goals
    clear h
    go_enter Tryz.func174,Tryz.ntmps174
    go_wp2
    go_ret
    exact ⟨rfl,rfl⟩
theorem stamped_any (k:Int) (h:1 ≤ k∧k ≤ 11) (w:World):Calls Tryz.prog 175 #[.int .u8 k] w fun e w'=>e = .returned (.bool (sT k))∧w'=w:=by
  rcases kinds11 h with rfl | rfl | rfl | rfl | rfl | rfl | rfl | rfl | rfl | rfl | rfl
  all_goals
    clear h
    go_enter Tryz.func175,Tryz.ntmps175
    go_wp2
    go_ret
    exact ⟨rfl,rfl⟩
end Go.Proofs.YtcoimipgilkmbaaGreatDoor.tt
namespace Go.Proofs.YtcoimipgilkmbaaGreatDoor.tt
set_option linter.unusedVariables false
set_option linter.unusedSimpArgs false
set_option maxRecDepth 1000000
set_option maxHeartbeats 16000000
open Go Go.ChangeShapes Go.WideShapes Go.ChangeAt Go.RowKit
def usd (u:Int) (n:Nt):Nt:=
  if u=0 then bare n.k (-1) n.t n.b 0 0 false false
  else if u=1 then bare n.k n.f (-1) n.b 0 0 false false
  else if u=2 then bare n.k (-1) n.t n.b n.st 0 false false
  else if u=3 then bare n.k n.f (-1) n.b n.st 0 false false
  else if u=20 then ⟨n.k,-1,n.t,n.b,0,n.s,true,false,n.d,n.hd⟩
  else if u=25 then ⟨n.k,n.f,-1,n.b,0,0,true,n.q,n.d,n.hd⟩
  else if n.h=true then ⟨n.k,n.f,-1,n.b,0,0,true,false,n.d,n.hd⟩ else bare n.k n.f (-1) n.b 0 0 false false
theorem box (w:World) (n:Nt) (j:Nat) (v:Value) (h:(nt n)[j]?=some v):(w.alloc (.cells (na n) 37)).cell? ⟨w.heap.size,j,none⟩=some v:=by
  have h:=cell_at (range_of (heap_alloc_new w (.cells (na n) 37))) j v h
  exact h
theorem ret_nt {fn:Func} (hres:fn.results=#[.cell 4 37]) (w:World) (n:Nt) (B:Nat) (tmps:Array Value) (Q:Ending→World→Prop) (h4:tmps.getD 4 undef = .pointer (some ⟨B,0,none⟩))
    (hr:w.rangeAt B 0 (nt n)) (hQ:Q (.returned (.agg (na n))) w):bodyPost Tryz.prog fn Q .ret { tmps:=tmps,defers:=[] } w:=by
  refine bodyPost_ret (v:= .agg (na n)) ?_ rfl hQ
  have:=run_loadVar_mid (P:=Tryz.prog) w B 0 37 (nt n) _ hr Tryz.underlying37 rfl (info31' n)
  have h4':tmps[4]?.getD undef = .pointer (some ⟨B,0,none⟩):=by simpa using h4
  simp [results,hres,h4',asAddr,this,na]
section
variable {w:World} {ops:Array Oper} {rest:List Oper} {a:Act} {Q:Exit→Act→World→Prop} {dst:Option Tmp} {ty:TypeId} {pos:String} {after:Array Edge}
theorem store_lit (n:Nt) (A:Array Value) (hA:na n=A) (c:Array Value) (x y:Tmp) (hx:a.eval (.tmp x) = .pointer (some ⟨w.heap.size,0,none⟩)) (hy:a.eval (.tmp y) = .agg A) (hc:c.size=24)
    (h:wpList Tryz.prog ops Q rest (a.put dst undef) (w.alloc (.cells A 37))):wpList Tryz.prog ops Q (⟨dst,.store 37 (.tmp x) (.tmp y),ty,pos,after,none⟩ :: rest) a (w.alloc (.cells c 37)):=by
  subst hA;exact store_new n c x y hx hy hc h
theorem load_new (n:Nt) (A:Array Value) (hA:na n=A) (x:Tmp) (hx:a.eval (.tmp x) = .pointer (some ⟨w.heap.size,0,none⟩))
    (h:wpList Tryz.prog ops Q rest (a.put dst (.agg (na n))) (w.alloc (.cells A 37))):wpList Tryz.prog ops Q (⟨dst,.load 37 (.tmp x),ty,pos,after,none⟩ :: rest) a (w.alloc (.cells A 37)):=by
  subst hA;exact load_nt n x _ hx (range_of (heap_alloc_new _ _)) h
end
structure Two (w w2:World) (n:Nt):Prop where
  grown:w.grownBy w2 none
  old:w2.heap[w.heap.size]?=some (.cells (na n) 37 (0,0))
  res:w2.heap[w.heap.size + 1]?=some (.cells (na zn) 37 (0,0))
  size:w2.heap.size=w.heap.size + 2
theorem two_of (w:World) (n:Nt):∃ w2,(w.alloc (.cells (na n) 37)).alloc (.cells (na zn) 37)=w2∧Two w w2 n:=by
  refine ⟨_,rfl,grown_alloc (grown_alloc (grown_refl _ _) _) _,(Below.heap_alloc _ _ _ (by simp)).trans (heap_alloc_new _ _),?_,by simp⟩
  have h:=heap_alloc_new (w.alloc (.cells (na n) 37)) (.cells (na zn) 37)
  rwa [show (w.alloc (.cells (na n) 37)).heap.size=w.heap.size + 1 by simp] at h
theorem Two.res1 {w w2:World} {n:Nt} (h:Two w w2 n) (o:Obj):(w2.alloc o).heap[w.heap.size + 1]?=some (.cells (na zn) 37 (0,0)):=
  (Below.heap_alloc _ _ _ (by rw [h.size];omega)).trans h.res
theorem Two.end_ {w w2:World} {n:Nt} (h:Two w w2 n) (o:Obj) (m:Nt):((w2.alloc o).setRow (w.heap.size + 1) (na m)).rangeAt (w.heap.size + 1) 0 (nt m)∧w.grownBy ((w2.alloc o).setRow (w.heap.size + 1) (na m)) none:=
  ⟨range_of (setRow_heap _ _ _ _ _ _ (h.res1 o)),grown_setRow (grown_alloc h.grown _) _ (by omega) _⟩
theorem named29:∃ (t:TypeId) (m:Nat),Hid (Op.load 35=Op.load t∧Op.store 35=Op.store t)∧(∀ w,(isAgg t).run Tryz.prog w = .ok true w)∧(∀ w,(sizeOf t).run Tryz.prog w = .ok m w) ∧
    (∀ (g o:Nat) (d:List Int),d.length=16→∀ w:World,w.rangeAt g o (d.map U)→(loadCellsFrom ⟨g,o,none⟩ 0 m #[]).run Tryz.prog w = .ok (row d) w)∧(∀ d:List Int,d.length=16→(row d).size=m) ∧
    (∀ (g o:Nat) (d:List Int),d.length=16→∀ w:World,w.there g o 16→(storeCells ⟨g,o,none⟩ (row d).toList 0).run Tryz.prog w = .ok () (w.setCells g o (d.map U))):=
  ⟨35,16,qh ⟨rfl,rfl⟩,Tryz.isAgg35,Tryz.sizeOf35,fun g o d hd w h=>by
    have:=run_loadCells_list (P:=Tryz.prog) w ⟨g,o,none⟩ (d.map U) (fun j v hv=>by rw [add_lit];exact h j v hv)
    simpa [loadCells,hd,row] using this,fun d hd=>by simp [row,hd],fun g o d hd w h=>by
    have:=run_storeCells_cells (P:=Tryz.prog) g o (d.map U) 0 w (fun j hj=>by simpa using (h j (by simpa [hd] using hj)).1) (fun j hj=>by simpa using (h j (by simpa [hd] using hj)).2) (fun v hv=>by
      obtain ⟨x,_,rfl⟩:=List.mem_map.1 hv;rfl)
    simpa [row] using this⟩
theorem range_d {w:World} {g:Nat} {n:Nt} (h:w.rangeAt g 0 (nt n)):w.rangeAt g 8 (n.d.map U):=fun j v hv=>by
  have:=h (8 + j) v (by rw [nt_d];simpa using hv)
  rwa [Nat.zero_add] at this
structure Three (w w2 w3:World) (n m:Nt):Prop where
  c6:w3.cell? ⟨w2.heap.size,6,none⟩=some (.bool m.h)
  f6:w3.frozen? ⟨w2.heap.size,6,none⟩=false
  k1:w3.drew.rangeAt w.heap.size 8 (n.d.map U)
  k2:(w3.drew.setCell ⟨w2.heap.size,6,none⟩ (.bool true)).rangeAt w.heap.size 8 (n.d.map U)∧(w3.drew.setCell ⟨w2.heap.size,6,none⟩ (.bool true)).there w2.heap.size 8 16
  k3:∀ f:Nt,f.k=m.k→f.f=m.f→f.t=m.t→f.b=m.b→f.st=m.st→f.s=m.s→f.h=true→f.q=m.q→f.d=n.d →
    ((w3.drew.setCell ⟨w2.heap.size,6,none⟩ (.bool true)).setCells w2.heap.size 8 (n.d.map U)).rangeAt w2.heap.size 0 (nt f) ∧
    w.grownBy ((w3.drew.setCell ⟨w2.heap.size,6,none⟩ (.bool true)).setCells w2.heap.size 8 (n.d.map U)) none ∧
    ((w3.drew.setCell ⟨w2.heap.size,6,none⟩ (.bool true)).setCells w2.heap.size 8 (n.d.map U)).heap[w.heap.size + 1]?=some (.cells (na zn) 37 (0,0))
theorem three_of {w w2:World} {n:Nt} (h:Two w w2 n) (m:Nt) {A:Array Value} (hA:na m=A):∃ w3,w2.alloc (.cells A 37)=w3∧Three w w2 w3 n m:=by
  subst hA
  have hs:=h.size
  have hb:=heap_alloc_new w2 (.cells (na m) 37)
  have ho:(w2.alloc (.cells (na m) 37)).rangeAt w.heap.size 0 (nt n):=range_of ((Below.heap_alloc _ _ _ (by omega)).trans h.old)
  have hm:(w2.alloc (.cells (na m) 37)).rangeAt w2.heap.size 0 (nt m):=range_of hb
  have hd:=range_d ho
  have ht:=there_of hb (na_size m)
  have hg2:w.grownBy (w2.alloc (.cells (na m) 37)) none:=grown_alloc h.grown _
  have e1:∀ w:World,w.drew.setCell ⟨w2.heap.size,6,none⟩ (.bool true)=w.drew.setCells w2.heap.size 6 [.bool true]:=fun _=>rfl
  refine ⟨_,rfl,cell_at hm 6 _ rfl,?_,hd,?_,?_⟩
  · exact (ht 6 (by omega)).2
  · rw [e1]
    refine ⟨range_grown (w:=(w2.alloc (.cells (na m) 37)).drew) hd (own:=some w2.heap.size) (grown_setCells _ _ _ _) (by rw [hs];simp),?_⟩
    have:=World.there_setCells (w:=(w2.alloc (.cells (na m) 37)).drew) (show (w2.alloc (.cells (na m) 37)).drew.there w2.heap.size 0 24 from ht) w2.heap.size 6 [.bool true]
    intro i hi
    have:=this (8 + i) (by omega)
    rwa [Nat.zero_add] at this
  · intro f h0 h1 h2 h3 h4 h5 h6 h7 h8
    rw [e1]
    have hg3:(w2.alloc (.cells (na m) 37)).grownBy (((w2.alloc (.cells (na m) 37)).drew.setCells w2.heap.size 6 [.bool true]).setCells w2.heap.size 8 (n.d.map U)) (some w2.heap.size):=grown_trans (grown_drew (grown_refl _ _)) (grown_trans (grown_setCells _ _ _ _) (grown_setCells _ _ _ _))
    have ht1:=World.there_setCells (w:=(w2.alloc (.cells (na m) 37)).drew) (show (w2.alloc (.cells (na m) 37)).drew.there w2.heap.size 0 24 from ht) w2.heap.size 6 [.bool true]
    have h6':((w2.alloc (.cells (na m) 37)).drew.setCells w2.heap.size 6 [.bool true]).rangeAt w2.heap.size 6 [.bool true]:=World.rangeAt_setCells_same _ _ _ _ (fun i hi=>by
      have:=ht (6 + i) (by simp at hi;omega);rwa [Nat.zero_add] at this)
    have part:∀ (k:Nat) (v:Value),k < 8→k ≠ 6→(nt m)[k]?=some v→(((w2.alloc (.cells (na m) 37)).drew.setCells w2.heap.size 6 [.bool true]).setCells w2.heap.size 8 (n.d.map U)).cell? ⟨w2.heap.size,k,none⟩=some v:=fun k v hk hk6 hv=>by
      have r0:(w2.alloc (.cells (na m) 37)).drew.rangeAt w2.heap.size k [v]:=fun j u hu=>by
        match j,hu with
        | 0,hu=>simp at hu;subst hu;have:=hm k v hv;rwa [Nat.zero_add] at this
        | j + 1,hu=>simp at hu
      have r1:=World.rangeAt_setCells_apart r0 w2.heap.size 6 [.bool true] (.inr (by simp;omega))
      have r2:=World.rangeAt_setCells_apart r1 w2.heap.size 8 (n.d.map U) (.inr (by simp;omega))
      exact r2 0 v rfl
    have six:(((w2.alloc (.cells (na m) 37)).drew.setCells w2.heap.size 6 [.bool true]).setCells w2.heap.size 8 (n.d.map U)).cell? ⟨w2.heap.size,6,none⟩=some (.bool true):=
      World.rangeAt_setCells_apart h6' w2.heap.size 8 (n.d.map U) (.inr (by simp)) 0 _ rfl
    have dat:(((w2.alloc (.cells (na m) 37)).drew.setCells w2.heap.size 6 [.bool true]).setCells w2.heap.size 8 (n.d.map U)).rangeAt w2.heap.size 8 (n.d.map U):=World.rangeAt_setCells_same _ _ _ _ (fun i hi=>by
      have:=ht1 (8 + i) (by simp [n.hd] at hi;omega);rwa [Nat.zero_add] at this)
    refine ⟨?_,grown_new hg2 (by omega) hg3,(hg3.block (w.heap.size + 1) (by simp;omega) (by simp;omega)).trans (h.res1 _)⟩
    intro j v hv
    rw [Nat.zero_add]
    obtain ⟨fk,ff,ft,fb,fst,fs,fh,fq,fd,fhd⟩:=f
    simp only at h0 h1 h2 h3 h4 h5 h6 h7 h8
    subst h0 h1 h2 h3 h4 h5 h6 h7 h8
    match j,hv with
    | 0,hv=>simp [nt] at hv;subst hv;exact part 0 _ (by omega) (by omega) rfl
    | 1,hv=>simp [nt] at hv;subst hv;exact part 1 _ (by omega) (by omega) rfl
    | 2,hv=>simp [nt] at hv;subst hv;exact part 2 _ (by omega) (by omega) rfl
    | 3,hv=>simp [nt] at hv;subst hv;exact part 3 _ (by omega) (by omega) rfl
    | 4,hv=>simp [nt] at hv;subst hv;exact part 4 _ (by omega) (by omega) rfl
    | 5,hv=>simp [nt] at hv;subst hv;exact part 5 _ (by omega) (by omega) rfl
    | 6,hv=>simp [nt] at hv;subst hv;exact six
    | 7,hv=>simp [nt] at hv;subst hv;exact part 7 _ (by omega) (by omega) rfl
    | j + 8,hv=>
      rw [Nat.add_comm j 8] at hv ⊢
      exact dat j v (by rw [nt_d] at hv;simpa using hv)
theorem used_0 (n:Nt) (w:World):Calls Tryz.prog 131 #[.agg (na n),.int .u8 0] w fun e w'=>e = .returned (.agg (na (usd 0 n)))∧w.grownBy w' none:=by
  have hE:usd 0 n=bare n.k (-1) n.t n.b 0 0 false false:=rfl
  rw [hE]
  clear hE
  have H1:=qh (inc 0 1 false (by decide +kernel))
  have H2:=qh (inc 0 2 false (by decide +kernel))
  have H4:=qh (inc 0 4 false (by decide +kernel))
  have H8:=qh (inc 0 8 false (by decide +kernel))
  have H16:=qh (inc 0 16 false (by decide +kernel))
  have H32:=qh (inc 0 32 false (by decide +kernel))
  obtain ⟨w2,hw,h2⟩:=two_of w n
  have c0:=cell_at (range_of h2.old) 0 _ rfl
  have c1:=cell_at (range_of h2.old) 1 _ rfl
  have c2:=cell_at (range_of h2.old) 2 _ rfl
  have c3:=cell_at (range_of h2.old) 3 _ rfl
  have c4:=cell_at (range_of h2.old) 4 _ rfl
  have c5:=cell_at (range_of h2.old) 5 _ rfl
  have c6:=cell_at (range_of h2.old) 6 _ rfl
  have c7:=cell_at (range_of h2.old) 7 _ rfl
  have hlt:w.heap.size < w2.heap.size:=by rw [h2.size];omega
  have hne:¬ w.heap.size=w2.heap.size:=by omega
  have hz:na zn=_:=bare_na 0 0 0 0 0 0 false false
  rw [hz] at hw
  have HT:=qh h2
  clear h2 hz
  have HY:Hid (na (bare n.k (-1) n.t n.b 0 0 false false)=_):=qh (bare_na n.k (-1) n.t n.b 0 0 false false)
  have HZ:Hid (na (bare n.k (-1) n.t n.b 0 0 false false)=_):=qh (bare_na n.k (-1) n.t n.b 0 0 false false)
  go_enter Tryz.func131,Tryz.ntmps131
  go_wp2_with (first
    | ((with_reducible refine store_lit _ _ HZ.out _ 5 12 ?_ ?_ ?_ ?_);(rfl);(rfl);(rfl))
    | ((with_reducible refine load_new _ _ HY.out 5 ?_ ?_);(rfl))
    | ((with_reducible refine store_any (bare n.k (-1) n.t n.b 0 0 false false) _ 4 48 (w.heap.size + 1) ?_ ?_ (HT.out.res1 _) ?_ ?_);(rfl);(rfl);(rfl))
    | (go_at_call 134;(first
      | ((with_reducible refine (H1.out _).mono ?_);rintro e w1 ⟨rfl,rfl⟩)
      | ((with_reducible refine (H2.out _).mono ?_);rintro e w1 ⟨rfl,rfl⟩)
      | ((with_reducible refine (H4.out _).mono ?_);rintro e w1 ⟨rfl,rfl⟩)
      | ((with_reducible refine (H8.out _).mono ?_);rintro e w1 ⟨rfl,rfl⟩)
      | ((with_reducible refine (H16.out _).mono ?_);rintro e w1 ⟨rfl,rfl⟩)
      | ((with_reducible refine (H32.out _).mono ?_);rintro e w1 ⟨rfl,rfl⟩))))
  exact ret_nt rfl _ (bare n.k (-1) n.t n.b 0 0 false false) (w.heap.size + 1) _ _ (by rfl) (HT.out.end_ _ _).1 ⟨rfl,(HT.out.end_ _ _).2⟩
theorem used_1 (n:Nt) (w:World):Calls Tryz.prog 131 #[.agg (na n),.int .u8 1] w fun e w'=>e = .returned (.agg (na (usd 1 n)))∧w.grownBy w' none:=by
  have hE:usd 1 n=bare n.k n.f (-1) n.b 0 0 false false:=rfl
  rw [hE]
  clear hE
  have H1:=qh (inc 1 1 true (by decide +kernel))
  have H2:=qh (inc 1 2 false (by decide +kernel))
  have H4:=qh (inc 1 4 false (by decide +kernel))
  have H8:=qh (inc 1 8 false (by decide +kernel))
  have H16:=qh (inc 1 16 false (by decide +kernel))
  have H32:=qh (inc 1 32 false (by decide +kernel))
  obtain ⟨w2,hw,h2⟩:=two_of w n
  have c0:=cell_at (range_of h2.old) 0 _ rfl
  have c1:=cell_at (range_of h2.old) 1 _ rfl
  have c2:=cell_at (range_of h2.old) 2 _ rfl
  have c3:=cell_at (range_of h2.old) 3 _ rfl
  have c4:=cell_at (range_of h2.old) 4 _ rfl
  have c5:=cell_at (range_of h2.old) 5 _ rfl
  have c6:=cell_at (range_of h2.old) 6 _ rfl
  have c7:=cell_at (range_of h2.old) 7 _ rfl
  have hlt:w.heap.size < w2.heap.size:=by rw [h2.size];omega
  have hne:¬ w.heap.size=w2.heap.size:=by omega
  have hz:na zn=_:=bare_na 0 0 0 0 0 0 false false
  rw [hz] at hw
  have HT:=qh h2
  clear h2 hz
  have HY:Hid (na (bare n.k n.f (-1) n.b 0 0 false false)=_):=qh (bare_na n.k n.f (-1) n.b 0 0 false false)
  have HZ:Hid (na (bare n.k (-1) n.t n.b 0 0 false false)=_):=qh (bare_na n.k (-1) n.t n.b 0 0 false false)
  go_enter Tryz.func131,Tryz.ntmps131
  go_wp2_with (first
    | ((with_reducible refine store_lit _ _ HZ.out _ 5 12 ?_ ?_ ?_ ?_);(rfl);(rfl);(rfl))
    | ((with_reducible refine load_new _ _ HY.out 5 ?_ ?_);(rfl))
    | ((with_reducible refine store_any (bare n.k n.f (-1) n.b 0 0 false false) _ 4 48 (w.heap.size + 1) ?_ ?_ (HT.out.res1 _) ?_ ?_);(rfl);(rfl);(rfl))
    | (go_at_call 134;(first
      | ((with_reducible refine (H1.out _).mono ?_);rintro e w1 ⟨rfl,rfl⟩)
      | ((with_reducible refine (H2.out _).mono ?_);rintro e w1 ⟨rfl,rfl⟩)
      | ((with_reducible refine (H4.out _).mono ?_);rintro e w1 ⟨rfl,rfl⟩)
      | ((with_reducible refine (H8.out _).mono ?_);rintro e w1 ⟨rfl,rfl⟩)
      | ((with_reducible refine (H16.out _).mono ?_);rintro e w1 ⟨rfl,rfl⟩)
      | ((with_reducible refine (H32.out _).mono ?_);rintro e w1 ⟨rfl,rfl⟩))))
  exact ret_nt rfl _ (bare n.k n.f (-1) n.b 0 0 false false) (w.heap.size + 1) _ _ (by rfl) (HT.out.end_ _ _).1 ⟨rfl,(HT.out.end_ _ _).2⟩
theorem used_2 (n:Nt) (w:World):Calls Tryz.prog 131 #[.agg (na n),.int .u8 2] w fun e w'=>e = .returned (.agg (na (usd 2 n)))∧w.grownBy w' none:=by
  have hE:usd 2 n=bare n.k (-1) n.t n.b n.st 0 false false:=rfl
  rw [hE]
  clear hE
  have H1:=qh (inc 2 1 false (by decide +kernel))
  have H2:=qh (inc 2 2 true (by decide +kernel))
  have H4:=qh (inc 2 4 false (by decide +kernel))
  have H8:=qh (inc 2 8 false (by decide +kernel))
  have H16:=qh (inc 2 16 false (by decide +kernel))
  have H32:=qh (inc 2 32 false (by decide +kernel))
  obtain ⟨w2,hw,h2⟩:=two_of w n
  have c0:=cell_at (range_of h2.old) 0 _ rfl
  have c1:=cell_at (range_of h2.old) 1 _ rfl
  have c2:=cell_at (range_of h2.old) 2 _ rfl
  have c3:=cell_at (range_of h2.old) 3 _ rfl
  have c4:=cell_at (range_of h2.old) 4 _ rfl
  have c5:=cell_at (range_of h2.old) 5 _ rfl
  have c6:=cell_at (range_of h2.old) 6 _ rfl
  have c7:=cell_at (range_of h2.old) 7 _ rfl
  have hlt:w.heap.size < w2.heap.size:=by rw [h2.size];omega
  have hne:¬ w.heap.size=w2.heap.size:=by omega
  have hz:na zn=_:=bare_na 0 0 0 0 0 0 false false
  rw [hz] at hw
  have HT:=qh h2
  clear h2 hz
  have HY:Hid (na (bare n.k (-1) n.t n.b n.st 0 false false)=_):=qh (bare_na n.k (-1) n.t n.b n.st 0 false false)
  have HZ:Hid (na (bare n.k (-1) n.t n.b 0 0 false false)=_):=qh (bare_na n.k (-1) n.t n.b 0 0 false false)
  go_enter Tryz.func131,Tryz.ntmps131
  go_wp2_with (first
    | ((with_reducible refine store_lit _ _ HZ.out _ 5 12 ?_ ?_ ?_ ?_);(rfl);(rfl);(rfl))
    | ((with_reducible refine load_new _ _ HY.out 5 ?_ ?_);(rfl))
    | ((with_reducible refine store_any (bare n.k (-1) n.t n.b n.st 0 false false) _ 4 48 (w.heap.size + 1) ?_ ?_ (HT.out.res1 _) ?_ ?_);(rfl);(rfl);(rfl))
    | (go_at_call 134;(first
      | ((with_reducible refine (H1.out _).mono ?_);rintro e w1 ⟨rfl,rfl⟩)
      | ((with_reducible refine (H2.out _).mono ?_);rintro e w1 ⟨rfl,rfl⟩)
      | ((with_reducible refine (H4.out _).mono ?_);rintro e w1 ⟨rfl,rfl⟩)
      | ((with_reducible refine (H8.out _).mono ?_);rintro e w1 ⟨rfl,rfl⟩)
      | ((with_reducible refine (H16.out _).mono ?_);rintro e w1 ⟨rfl,rfl⟩)
      | ((with_reducible refine (H32.out _).mono ?_);rintro e w1 ⟨rfl,rfl⟩))))
  exact ret_nt rfl _ (bare n.k (-1) n.t n.b n.st 0 false false) (w.heap.size + 1) _ _ (by rfl) (HT.out.end_ _ _).1 ⟨rfl,(HT.out.end_ _ _).2⟩
theorem used_3 (n:Nt) (w:World):Calls Tryz.prog 131 #[.agg (na n),.int .u8 3] w fun e w'=>e = .returned (.agg (na (usd 3 n)))∧w.grownBy w' none:=by
  have hE:usd 3 n=bare n.k n.f (-1) n.b n.st 0 false false:=rfl
  rw [hE]
  clear hE
  have H1:=qh (inc 3 1 true (by decide +kernel))
  have H2:=qh (inc 3 2 true (by decide +kernel))
  have H4:=qh (inc 3 4 false (by decide +kernel))
  have H8:=qh (inc 3 8 false (by decide +kernel))
  have H16:=qh (inc 3 16 false (by decide +kernel))
  have H32:=qh (inc 3 32 false (by decide +kernel))
  obtain ⟨w2,hw,h2⟩:=two_of w n
  have c0:=cell_at (range_of h2.old) 0 _ rfl
  have c1:=cell_at (range_of h2.old) 1 _ rfl
  have c2:=cell_at (range_of h2.old) 2 _ rfl
  have c3:=cell_at (range_of h2.old) 3 _ rfl
  have c4:=cell_at (range_of h2.old) 4 _ rfl
  have c5:=cell_at (range_of h2.old) 5 _ rfl
  have c6:=cell_at (range_of h2.old) 6 _ rfl
  have c7:=cell_at (range_of h2.old) 7 _ rfl
  have hlt:w.heap.size < w2.heap.size:=by rw [h2.size];omega
  have hne:¬ w.heap.size=w2.heap.size:=by omega
  have hz:na zn=_:=bare_na 0 0 0 0 0 0 false false
  rw [hz] at hw
  have HT:=qh h2
  clear h2 hz
  have HY:Hid (na (bare n.k n.f (-1) n.b n.st 0 false false)=_):=qh (bare_na n.k n.f (-1) n.b n.st 0 false false)
  have HZ:Hid (na (bare n.k (-1) n.t n.b 0 0 false false)=_):=qh (bare_na n.k (-1) n.t n.b 0 0 false false)
  go_enter Tryz.func131,Tryz.ntmps131
  go_wp2_with (first
    | ((with_reducible refine store_lit _ _ HZ.out _ 5 12 ?_ ?_ ?_ ?_);(rfl);(rfl);(rfl))
    | ((with_reducible refine load_new _ _ HY.out 5 ?_ ?_);(rfl))
    | ((with_reducible refine store_any (bare n.k n.f (-1) n.b n.st 0 false false) _ 4 48 (w.heap.size + 1) ?_ ?_ (HT.out.res1 _) ?_ ?_);(rfl);(rfl);(rfl))
    | (go_at_call 134;(first
      | ((with_reducible refine (H1.out _).mono ?_);rintro e w1 ⟨rfl,rfl⟩)
      | ((with_reducible refine (H2.out _).mono ?_);rintro e w1 ⟨rfl,rfl⟩)
      | ((with_reducible refine (H4.out _).mono ?_);rintro e w1 ⟨rfl,rfl⟩)
      | ((with_reducible refine (H8.out _).mono ?_);rintro e w1 ⟨rfl,rfl⟩)
      | ((with_reducible refine (H16.out _).mono ?_);rintro e w1 ⟨rfl,rfl⟩)
      | ((with_reducible refine (H32.out _).mono ?_);rintro e w1 ⟨rfl,rfl⟩))))
  exact ret_nt rfl _ (bare n.k n.f (-1) n.b n.st 0 false false) (w.heap.size + 1) _ _ (by rfl) (HT.out.end_ _ _).1 ⟨rfl,(HT.out.end_ _ _).2⟩
theorem used_33n (n:Nt) (hh:n.h=false) (w:World):Calls Tryz.prog 131 #[.agg (na n),.int .u8 33] w fun e w'=>e = .returned (.agg (na (usd 33 n)))∧w.grownBy w' none:=by
  have hE:usd 33 n=bare n.k n.f (-1) n.b 0 0 false false:=by unfold usd;rw [hh];rfl
  rw [hE]
  clear hE
  have H1:=qh (inc 33 1 true (by decide +kernel))
  have H2:=qh (inc 33 2 false (by decide +kernel))
  have H4:=qh (inc 33 4 false (by decide +kernel))
  have H8:=qh (inc 33 8 false (by decide +kernel))
  have H16:=qh (inc 33 16 false (by decide +kernel))
  have H32:=qh (inc 33 32 true (by decide +kernel))
  obtain ⟨w2,hw,h2⟩:=two_of w n
  have c0:=cell_at (range_of h2.old) 0 _ rfl
  have c1:=cell_at (range_of h2.old) 1 _ rfl
  have c2:=cell_at (range_of h2.old) 2 _ rfl
  have c3:=cell_at (range_of h2.old) 3 _ rfl
  have c4:=cell_at (range_of h2.old) 4 _ rfl
  have c5:=cell_at (range_of h2.old) 5 _ rfl
  have c6:=cell_at (range_of h2.old) 6 _ rfl
  have c7:=cell_at (range_of h2.old) 7 _ rfl
  rw [hh] at c6
  have hlt:w.heap.size < w2.heap.size:=by rw [h2.size];omega
  have hne:¬ w.heap.size=w2.heap.size:=by omega
  have hz:na zn=_:=bare_na 0 0 0 0 0 0 false false
  rw [hz] at hw
  have HT:=qh h2
  clear h2 hz
  have HY:Hid (na (bare n.k n.f (-1) n.b 0 0 false false)=_):=qh (bare_na n.k n.f (-1) n.b 0 0 false false)
  have HZ:Hid (na (bare n.k (-1) n.t n.b 0 0 false false)=_):=qh (bare_na n.k (-1) n.t n.b 0 0 false false)
  go_enter Tryz.func131,Tryz.ntmps131
  go_wp2_with (first
    | ((with_reducible refine store_lit _ _ HZ.out _ 5 12 ?_ ?_ ?_ ?_);(rfl);(rfl);(rfl))
    | ((with_reducible refine load_new _ _ HY.out 5 ?_ ?_);(rfl))
    | ((with_reducible refine store_any (bare n.k n.f (-1) n.b 0 0 false false) _ 4 48 (w.heap.size + 1) ?_ ?_ (HT.out.res1 _) ?_ ?_);(rfl);(rfl);(rfl))
    | (go_at_call 134;(first
      | ((with_reducible refine (H1.out _).mono ?_);rintro e w1 ⟨rfl,rfl⟩)
      | ((with_reducible refine (H2.out _).mono ?_);rintro e w1 ⟨rfl,rfl⟩)
      | ((with_reducible refine (H4.out _).mono ?_);rintro e w1 ⟨rfl,rfl⟩)
      | ((with_reducible refine (H8.out _).mono ?_);rintro e w1 ⟨rfl,rfl⟩)
      | ((with_reducible refine (H16.out _).mono ?_);rintro e w1 ⟨rfl,rfl⟩)
      | ((with_reducible refine (H32.out _).mono ?_);rintro e w1 ⟨rfl,rfl⟩))))
  exact ret_nt rfl _ (bare n.k n.f (-1) n.b 0 0 false false) (w.heap.size + 1) _ _ (by rfl) (HT.out.end_ _ _).1 ⟨rfl,(HT.out.end_ _ _).2⟩
theorem used_20 (n:Nt) (w:World):Calls Tryz.prog 131 #[.agg (na n),.int .u8 20] w fun e w'=>e = .returned (.agg (na (usd 20 n)))∧w.grownBy w' none:=by
  have hE:usd 20 n=⟨n.k,-1,n.t,n.b,0,n.s,true,false,n.d,n.hd⟩:=rfl
  rw [hE]
  clear hE
  have H1:=qh (inc 20 1 false (by decide +kernel))
  have H2:=qh (inc 20 2 false (by decide +kernel))
  have H4:=qh (inc 20 4 true (by decide +kernel))
  have H8:=qh (inc 20 8 false (by decide +kernel))
  have H16:=qh (inc 20 16 true (by decide +kernel))
  have H32:=qh (inc 20 32 false (by decide +kernel))
  obtain ⟨w2,hw,h2⟩:=two_of w n
  have c0:=cell_at (range_of h2.old) 0 _ rfl
  have c1:=cell_at (range_of h2.old) 1 _ rfl
  have c2:=cell_at (range_of h2.old) 2 _ rfl
  have c3:=cell_at (range_of h2.old) 3 _ rfl
  have c4:=cell_at (range_of h2.old) 4 _ rfl
  have c5:=cell_at (range_of h2.old) 5 _ rfl
  have c6:=cell_at (range_of h2.old) 6 _ rfl
  have c7:=cell_at (range_of h2.old) 7 _ rfl
  have hlt:w.heap.size < w2.heap.size:=by rw [h2.size];omega
  have hne:¬ w.heap.size=w2.heap.size:=by omega
  have hz:na zn=_:=bare_na 0 0 0 0 0 0 false false
  rw [hz] at hw
  have HT:=qh h2
  clear h2 hz
  have HY:Hid (na (bare n.k (-1) n.t n.b 0 n.s false false)=_):=qh (bare_na n.k (-1) n.t n.b 0 n.s false false)
  have HZ:Hid (na (bare n.k (-1) n.t n.b 0 0 false false)=_):=qh (bare_na n.k (-1) n.t n.b 0 0 false false)
  go_enter Tryz.func131,Tryz.ntmps131
  go_wp2_with (first
    | ((with_reducible refine store_lit _ _ HZ.out _ 5 12 ?_ ?_ ?_ ?_);(rfl);(rfl);(rfl))
    | (go_at_call 134;(first
      | ((with_reducible refine (H1.out _).mono ?_);rintro e w1 ⟨rfl,rfl⟩)
      | ((with_reducible refine (H2.out _).mono ?_);rintro e w1 ⟨rfl,rfl⟩)
      | ((with_reducible refine (H4.out _).mono ?_);rintro e w1 ⟨rfl,rfl⟩)
      | ((with_reducible refine (H8.out _).mono ?_);rintro e w1 ⟨rfl,rfl⟩)
      | ((with_reducible refine (H16.out _).mono ?_);rintro e w1 ⟨rfl,rfl⟩)
      | ((with_reducible refine (H32.out _).mono ?_);rintro e w1 ⟨rfl,rfl⟩))))
  obtain ⟨w3,hw3,h3⟩:=three_of HT.out _ HY.out
  rw [hw3]
  obtain ⟨hc6,hf6,k1,k2,k3⟩:=h3
  have HK3:=qh k3
  clear k3 hw3 hw HZ HY c0 c1 c2 c3 c4 c5 c6 c7
  obtain ⟨t,m,HTT,hagg,hsize,hld,hsz,hst⟩:=named29
  have hsz:=hsz n.d n.hd
  have hl1:=hld _ _ n.d n.hd _ k1
  have hl2:=hld _ _ n.d n.hd _ (show (w3.setCell ⟨w2.heap.size,6,none⟩ (.bool true)).drew.rangeAt w.heap.size 8 (n.d.map U) from k2.1)
  have hs2:=hst _ _ n.d n.hd _ k2.2
  have hs3:=hst _ _ n.d n.hd _ (show (w3.setCell ⟨w2.heap.size,6,none⟩ (.bool true)).drew.there w2.heap.size 8 16 from k2.2)
  clear hld hst k1 k2
  rw [HTT.out.1,HTT.out.2]
  go_region
  have HK4:=qh (HK3.out (⟨n.k,-1,n.t,n.b,0,n.s,true,false,n.d,n.hd⟩) rfl rfl rfl rfl rfl rfl rfl rfl rfl)
  clear HK3 hl1 hl2 hs2 hs3 hc6 hf6
  obtain ⟨w4,hw4⟩:∃ w4,(w3.drew.setCell ⟨w2.heap.size,6,none⟩ (.bool true)).setCells w2.heap.size 8 (n.d.map U)=w4:=⟨_,rfl⟩
  rw [hw4] at HK4
  rw [show (w3.setCell ⟨w2.heap.size,6,none⟩ (.bool true)).drew.setCells w2.heap.size 8 (n.d.map U)=w4 from hw4]
  clear hw4
  go_wp2_with (first
    | ((with_reducible refine load_nt (⟨n.k,-1,n.t,n.b,0,n.s,true,false,n.d,n.hd⟩) 5 w2.heap.size ?_ HK4.out.1 ?_);(rfl))
    | ((with_reducible refine store_any (⟨n.k,-1,n.t,n.b,0,n.s,true,false,n.d,n.hd⟩) _ 4 48 (w.heap.size + 1) ?_ ?_ HK4.out.2.2 ?_ ?_);(rfl);(rfl);(rfl)))
  exact ret_nt rfl _ (⟨n.k,-1,n.t,n.b,0,n.s,true,false,n.d,n.hd⟩) (w.heap.size + 1) _ _ (by rfl) (range_of (setRow_heap _ _ _ _ _ _ HK4.out.2.2)) ⟨rfl,grown_setRow HK4.out.2.1 _ (by omega) _⟩
theorem used_25 (n:Nt) (w:World):Calls Tryz.prog 131 #[.agg (na n),.int .u8 25] w fun e w'=>e = .returned (.agg (na (usd 25 n)))∧w.grownBy w' none:=by
  have hE:usd 25 n=⟨n.k,n.f,-1,n.b,0,0,true,n.q,n.d,n.hd⟩:=rfl
  rw [hE]
  clear hE
  have H1:=qh (inc 25 1 true (by decide +kernel))
  have H2:=qh (inc 25 2 false (by decide +kernel))
  have H4:=qh (inc 25 4 false (by decide +kernel))
  have H8:=qh (inc 25 8 true (by decide +kernel))
  have H16:=qh (inc 25 16 true (by decide +kernel))
  have H32:=qh (inc 25 32 false (by decide +kernel))
  obtain ⟨w2,hw,h2⟩:=two_of w n
  have c0:=cell_at (range_of h2.old) 0 _ rfl
  have c1:=cell_at (range_of h2.old) 1 _ rfl
  have c2:=cell_at (range_of h2.old) 2 _ rfl
  have c3:=cell_at (range_of h2.old) 3 _ rfl
  have c4:=cell_at (range_of h2.old) 4 _ rfl
  have c5:=cell_at (range_of h2.old) 5 _ rfl
  have c6:=cell_at (range_of h2.old) 6 _ rfl
  have c7:=cell_at (range_of h2.old) 7 _ rfl
  have hlt:w.heap.size < w2.heap.size:=by rw [h2.size];omega
  have hne:¬ w.heap.size=w2.heap.size:=by omega
  have hz:na zn=_:=bare_na 0 0 0 0 0 0 false false
  rw [hz] at hw
  have HT:=qh h2
  clear h2 hz
  have HY:Hid (na (bare n.k n.f (-1) n.b 0 0 false n.q)=_):=qh (bare_na n.k n.f (-1) n.b 0 0 false n.q)
  have HZ:Hid (na (bare n.k (-1) n.t n.b 0 0 false false)=_):=qh (bare_na n.k (-1) n.t n.b 0 0 false false)
  go_enter Tryz.func131,Tryz.ntmps131
  go_wp2_with (first
    | ((with_reducible refine store_lit _ _ HZ.out _ 5 12 ?_ ?_ ?_ ?_);(rfl);(rfl);(rfl))
    | (go_at_call 134;(first
      | ((with_reducible refine (H1.out _).mono ?_);rintro e w1 ⟨rfl,rfl⟩)
      | ((with_reducible refine (H2.out _).mono ?_);rintro e w1 ⟨rfl,rfl⟩)
      | ((with_reducible refine (H4.out _).mono ?_);rintro e w1 ⟨rfl,rfl⟩)
      | ((with_reducible refine (H8.out _).mono ?_);rintro e w1 ⟨rfl,rfl⟩)
      | ((with_reducible refine (H16.out _).mono ?_);rintro e w1 ⟨rfl,rfl⟩)
      | ((with_reducible refine (H32.out _).mono ?_);rintro e w1 ⟨rfl,rfl⟩))))
  obtain ⟨w3,hw3,h3⟩:=three_of HT.out _ HY.out
  rw [hw3]
  obtain ⟨hc6,hf6,k1,k2,k3⟩:=h3
  have HK3:=qh k3
  clear k3 hw3 hw HZ HY c0 c1 c2 c3 c4 c5 c6 c7
  obtain ⟨t,m,HTT,hagg,hsize,hld,hsz,hst⟩:=named29
  have hsz:=hsz n.d n.hd
  have hl1:=hld _ _ n.d n.hd _ k1
  have hl2:=hld _ _ n.d n.hd _ (show (w3.setCell ⟨w2.heap.size,6,none⟩ (.bool true)).drew.rangeAt w.heap.size 8 (n.d.map U) from k2.1)
  have hs2:=hst _ _ n.d n.hd _ k2.2
  have hs3:=hst _ _ n.d n.hd _ (show (w3.setCell ⟨w2.heap.size,6,none⟩ (.bool true)).drew.there w2.heap.size 8 16 from k2.2)
  clear hld hst k1 k2
  rw [HTT.out.1,HTT.out.2]
  go_region
  have HK4:=qh (HK3.out (⟨n.k,n.f,-1,n.b,0,0,true,n.q,n.d,n.hd⟩) rfl rfl rfl rfl rfl rfl rfl rfl rfl)
  clear HK3 hl1 hl2 hs2 hs3 hc6 hf6
  obtain ⟨w4,hw4⟩:∃ w4,(w3.drew.setCell ⟨w2.heap.size,6,none⟩ (.bool true)).setCells w2.heap.size 8 (n.d.map U)=w4:=⟨_,rfl⟩
  rw [hw4] at HK4
  rw [show (w3.setCell ⟨w2.heap.size,6,none⟩ (.bool true)).drew.setCells w2.heap.size 8 (n.d.map U)=w4 from hw4]
  clear hw4
  go_wp2_with (first
    | ((with_reducible refine load_nt (⟨n.k,n.f,-1,n.b,0,0,true,n.q,n.d,n.hd⟩) 5 w2.heap.size ?_ HK4.out.1 ?_);(rfl))
    | ((with_reducible refine store_any (⟨n.k,n.f,-1,n.b,0,0,true,n.q,n.d,n.hd⟩) _ 4 48 (w.heap.size + 1) ?_ ?_ HK4.out.2.2 ?_ ?_);(rfl);(rfl);(rfl)))
  exact ret_nt rfl _ (⟨n.k,n.f,-1,n.b,0,0,true,n.q,n.d,n.hd⟩) (w.heap.size + 1) _ _ (by rfl) (range_of (setRow_heap _ _ _ _ _ _ HK4.out.2.2)) ⟨rfl,grown_setRow HK4.out.2.1 _ (by omega) _⟩
theorem used_33h (n:Nt) (hh:n.h=true) (w:World):Calls Tryz.prog 131 #[.agg (na n),.int .u8 33] w fun e w'=>e = .returned (.agg (na (usd 33 n)))∧w.grownBy w' none:=by
  have hE:usd 33 n=⟨n.k,n.f,-1,n.b,0,0,true,false,n.d,n.hd⟩:=by unfold usd;rw [hh];rfl
  rw [hE]
  clear hE
  have H1:=qh (inc 33 1 true (by decide +kernel))
  have H2:=qh (inc 33 2 false (by decide +kernel))
  have H4:=qh (inc 33 4 false (by decide +kernel))
  have H8:=qh (inc 33 8 false (by decide +kernel))
  have H16:=qh (inc 33 16 false (by decide +kernel))
  have H32:=qh (inc 33 32 true (by decide +kernel))
  obtain ⟨w2,hw,h2⟩:=two_of w n
  have c0:=cell_at (range_of h2.old) 0 _ rfl
  have c1:=cell_at (range_of h2.old) 1 _ rfl
  have c2:=cell_at (range_of h2.old) 2 _ rfl
  have c3:=cell_at (range_of h2.old) 3 _ rfl
  have c4:=cell_at (range_of h2.old) 4 _ rfl
  have c5:=cell_at (range_of h2.old) 5 _ rfl
  have c6:=cell_at (range_of h2.old) 6 _ rfl
  have c7:=cell_at (range_of h2.old) 7 _ rfl
  rw [hh] at c6
  have hlt:w.heap.size < w2.heap.size:=by rw [h2.size];omega
  have hne:¬ w.heap.size=w2.heap.size:=by omega
  have hz:na zn=_:=bare_na 0 0 0 0 0 0 false false
  rw [hz] at hw
  have HT:=qh h2
  clear h2 hz
  have HY:Hid (na (bare n.k n.f (-1) n.b 0 0 false false)=_):=qh (bare_na n.k n.f (-1) n.b 0 0 false false)
  have HZ:Hid (na (bare n.k (-1) n.t n.b 0 0 false false)=_):=qh (bare_na n.k (-1) n.t n.b 0 0 false false)
  go_enter Tryz.func131,Tryz.ntmps131
  go_wp2_with (first
    | ((with_reducible refine store_lit _ _ HZ.out _ 5 12 ?_ ?_ ?_ ?_);(rfl);(rfl);(rfl))
    | (go_at_call 134;(first
      | ((with_reducible refine (H1.out _).mono ?_);rintro e w1 ⟨rfl,rfl⟩)
      | ((with_reducible refine (H2.out _).mono ?_);rintro e w1 ⟨rfl,rfl⟩)
      | ((with_reducible refine (H4.out _).mono ?_);rintro e w1 ⟨rfl,rfl⟩)
      | ((with_reducible refine (H8.out _).mono ?_);rintro e w1 ⟨rfl,rfl⟩)
      | ((with_reducible refine (H16.out _).mono ?_);rintro e w1 ⟨rfl,rfl⟩)
      | ((with_reducible refine (H32.out _).mono ?_);rintro e w1 ⟨rfl,rfl⟩))))
  obtain ⟨w3,hw3,h3⟩:=three_of HT.out _ HY.out
  rw [hw3]
  obtain ⟨hc6,hf6,k1,k2,k3⟩:=h3
  have HK3:=qh k3
  clear k3 hw3 hw HZ HY c0 c1 c2 c3 c4 c5 c6 c7
  obtain ⟨t,m,HTT,hagg,hsize,hld,hsz,hst⟩:=named29
  have hsz:=hsz n.d n.hd
  have hl1:=hld _ _ n.d n.hd _ k1
  have hl2:=hld _ _ n.d n.hd _ (show (w3.setCell ⟨w2.heap.size,6,none⟩ (.bool true)).drew.rangeAt w.heap.size 8 (n.d.map U) from k2.1)
  have hs2:=hst _ _ n.d n.hd _ k2.2
  have hs3:=hst _ _ n.d n.hd _ (show (w3.setCell ⟨w2.heap.size,6,none⟩ (.bool true)).drew.there w2.heap.size 8 16 from k2.2)
  clear hld hst k1 k2
  rw [HTT.out.1,HTT.out.2]
  go_region
  have HK4:=qh (HK3.out (⟨n.k,n.f,-1,n.b,0,0,true,false,n.d,n.hd⟩) rfl rfl rfl rfl rfl rfl rfl rfl rfl)
  clear HK3 hl1 hl2 hs2 hs3 hc6 hf6
  obtain ⟨w4,hw4⟩:∃ w4,(w3.drew.setCell ⟨w2.heap.size,6,none⟩ (.bool true)).setCells w2.heap.size 8 (n.d.map U)=w4:=⟨_,rfl⟩
  rw [hw4] at HK4
  rw [show (w3.setCell ⟨w2.heap.size,6,none⟩ (.bool true)).drew.setCells w2.heap.size 8 (n.d.map U)=w4 from hw4]
  clear hw4
  go_wp2_with (first
    | ((with_reducible refine load_nt (⟨n.k,n.f,-1,n.b,0,0,true,false,n.d,n.hd⟩) 5 w2.heap.size ?_ HK4.out.1 ?_);(rfl))
    | ((with_reducible refine store_any (⟨n.k,n.f,-1,n.b,0,0,true,false,n.d,n.hd⟩) _ 4 48 (w.heap.size + 1) ?_ ?_ HK4.out.2.2 ?_ ?_);(rfl);(rfl);(rfl)))
  exact ret_nt rfl _ (⟨n.k,n.f,-1,n.b,0,0,true,false,n.d,n.hd⟩) (w.heap.size + 1) _ _ (by rfl) (range_of (setRow_heap _ _ _ _ _ _ HK4.out.2.2)) ⟨rfl,grown_setRow HK4.out.2.1 _ (by omega) _⟩
theorem used_any (u:Int) (hu:us7 u) (n:Nt) (w:World):Calls Tryz.prog 131 #[.agg (na n),.int .u8 u] w fun e w'=>e = .returned (.agg (na (usd u n)))∧w.grownBy w' none:=by
  rcases hu with rfl | rfl | rfl | rfl | rfl | rfl | rfl
  · exact used_0 n w
  · exact used_1 n w
  · exact used_2 n w
  · exact used_3 n w
  · exact used_20 n w
  · exact used_25 n w
  · cases hh:n.h
    · exact used_33n n hh w
    · exact used_33h n hh w
def coreOf (u:Int) (n:Nt):Int:=if u=0 ∨ u=2 ∨ u=20 then n.t else n.f
theorem coreOf_home (u:Int) (hu:(!(bits .and .u8 u 1 == 0))=true) (n:Nt) (w:World):Calls Tryz.prog 133 #[.agg (na n),.int .u8 u] w fun e w'=>e = .returned (.int .i64 n.f)∧w.grownBy w' none:=by
  have H1:=qh (inc u 1 _ hu)
  have c1:=box w n 1 _ rfl
  have hg:=qh (grown_alloc (grown_refl w none) (.cells (na n) 37))
  clear hu
  go_enter Tryz.func133,Tryz.ntmps133
  go_wp2_with (go_at_call 134;((with_reducible refine (H1.out _).mono ?_);rintro e w1 ⟨rfl,rfl⟩))
  go_ret
  exact ⟨rfl,hg.out⟩
theorem coreOf_core (u:Int) (hu:(!(bits .and .u8 u 1 == 0))=false) (n:Nt) (w:World):Calls Tryz.prog 133 #[.agg (na n),.int .u8 u] w fun e w'=>e = .returned (.int .i64 n.t)∧w.grownBy w' none:=by
  have H1:=qh (inc u 1 _ hu)
  have c1:=box w n 2 _ rfl
  have hg:=qh (grown_alloc (grown_refl w none) (.cells (na n) 37))
  clear hu
  go_enter Tryz.func133,Tryz.ntmps133
  go_wp2_with (go_at_call 134;((with_reducible refine (H1.out _).mono ?_);rintro e w1 ⟨rfl,rfl⟩))
  go_ret
  exact ⟨rfl,hg.out⟩
theorem coreOf_any (u:Int) (hu:us7 u) (n:Nt) (w:World):Calls Tryz.prog 133 #[.agg (na n),.int .u8 u] w fun e w'=>e = .returned (.int .i64 (coreOf u n))∧w.grownBy w' none:=by
  rcases hu with rfl | rfl | rfl | rfl | rfl | rfl | rfl
  · exact coreOf_core 0 (by decide +kernel) n w
  · exact coreOf_home 1 (by decide +kernel) n w
  · exact coreOf_core 2 (by decide +kernel) n w
  · exact coreOf_home 3 (by decide +kernel) n w
  · exact coreOf_core 20 (by decide +kernel) n w
  · exact coreOf_home 25 (by decide +kernel) n w
  · exact coreOf_home 33 (by decide +kernel) n w
end Go.Proofs.YtcoimipgilkmbaaGreatDoor.tt
namespace Go.Proofs.YtcoimipgilkmbaaGreatDoor.tt
set_option linter.unusedVariables false
set_option linter.unusedSimpArgs false
set_option maxRecDepth 1000000
set_option maxHeartbeats 16000000
open Go Go.ChangeShapes Go.WideShapes Go.ChangeAt Go.RowKit
def kinds:List Int:=[0,3,3,25,2,2,20,2,0,33,3,1]
def TabK (w:World):Prop:=∀ k:Nat,k < 12→w.cell? ⟨1,k,none⟩=some (.int .u8 (kinds.getD k 0))
theorem TabK.grown {w w':World} (h:TabK w) (hg:w.grownBy w' none):TabK w':=fun k hk=>hg.cell (h k hk) (by simp)
theorem kinds_uses (m:Nat) (h1:1 ≤ m) (h2:m ≤ 11):kinds.getD m 0=uses (m:Int):=by
  have:∀ m,m < 12→1 ≤ m→kinds.getD m 0=uses (m:Int):=by decide
  exact this m (by omega) h1
def Nt.ok (n:Nt):Prop:=(1 ≤ n.k∧n.k ≤ 11)∧(0 ≤ n.b∧n.b < 256)∧n=usd (uses n.k) n∧(0 ≤ coreOf (uses n.k) n∧coreOf (uses n.k) n < 16)∧(uses n.k=20→1 ≤ n.s∧n.s ≤ 3)
instance (n:Nt):Decidable n.ok:=by unfold Nt.ok;infer_instance
theorem keep2 {wz wx wy:World} {p:World→Prop} (H:Hid (∀ w',wz.grownBy w' none→p w')) (h:p wx∧wz.grownBy wx none) (k:wx.grownBy wy none):p wy∧wz.grownBy wy none:=
  ⟨H.out _ (grown_trans h.2 k),grown_trans h.2 k⟩
section
variable (n:Nt) (w:World)
theorem may_kind (h:¬ (1 ≤ n.k∧n.k ≤ 11)):Calls Tryz.prog 95 #[.agg (na n)] w fun e w'=>e = .returned (.int .i64 2)∧w.grownBy w' none:=by
  have HK:=qh (isKind_any n.k)
  rw [decide_eq_false h] at HK
  have c0:=box w n 0 _ rfl
  have hg:=qh (grown_alloc (grown_refl w none) (.cells (na n) 37))
  clear h
  go_enter Tryz.func95,Tryz.ntmps95
  go_wp2_with (go_at_call 130;((with_reducible refine (HK.out _).mono ?_);rintro e w1 ⟨rfl,rfl⟩))
  go_ret
  exact ⟨rfl,hg.out⟩
theorem may_block (hk:1 ≤ n.k∧n.k ≤ 11) (h:¬ (0 ≤ n.b∧n.b < 256)):Calls Tryz.prog 95 #[.agg (na n)] w fun e w'=>e = .returned (.int .i64 2)∧w.grownBy w' none:=by
  have HK:=qh (isKind_any n.k)
  rw [decide_eq_true hk] at HK
  have c0:=box w n 0 _ rfl
  have c3:=box w n 3 _ rfl
  have hg:=qh (grown_alloc (grown_refl w none) (.cells (na n) 37))
  by_cases h0:n.b < 0
  · clear h hk
    go_enter Tryz.func95,Tryz.ntmps95
    go_wp2_with (go_at_call 130;((with_reducible refine (HK.out _).mono ?_);rintro e w1 ⟨rfl,rfl⟩))
    go_ret
    exact ⟨rfl,hg.out⟩
  · have h1:256 ≤ n.b:=by omega
    clear h hk
    go_enter Tryz.func95,Tryz.ntmps95
    go_wp2_with (go_at_call 130;((with_reducible refine (HK.out _).mono ?_);rintro e w1 ⟨rfl,rfl⟩))
    go_ret
    exact ⟨rfl,hg.out⟩
variable (hT:TabK w) (m:Nat) (hm:n.k=(m:Int)) (h1:1 ≤ m) (h2:m ≤ 11) (hb:0 ≤ n.b∧n.b < 256)
include hT hm h1 h2 hb
theorem may_used (h:¬ n=usd (uses n.k) n):Calls Tryz.prog 95 #[.agg (na n)] w fun e w'=>e = .returned (.int .i64 2)∧w.grownBy w' none:=by
  have HK:=qh (isKind_any n.k)
  rw [decide_eq_true (show 1 ≤ n.k∧n.k ≤ 11 by omega)] at HK
  have hg:=grown_alloc (grown_refl w none) (.cells (na n) 37)
  have ct:=hT.grown hg m (by omega)
  rw [kinds_uses m h1 h2,← hm] at ct
  have HU:=qh (used_any (uses n.k) (uses7 _) n)
  have HC:=qh (coreOf_any (uses n.k) (uses7 _) n)
  have HD:=qh (isCore_any (coreOf (uses n.k) n))
  have c0:=box w n 0 _ rfl
  have c3:=box w n 3 _ rfl
  have hq:∀ w,(binOp .neq 37 (.agg (na n)) (.agg (na (usd (uses n.k) n)))).run Tryz.prog w = .ok (.bool true) w:=fun w=>by rw [q31n,decide_eq_false h];rfl
  clear h HC HD
  have HC:True:=trivial
  have HD:True:=trivial
  generalize usd (uses n.k) n=x at *
  generalize uses n.k=u at *
  rw [hm] at c0 HK
  have HG:=qh hg
  obtain ⟨hb1,hb2⟩:=hb
  clear hT hm hg
  obtain ⟨t,mm,HTT,hagg,hsize,hld⟩:=named
  have HL:Hid (∀ w',(w.alloc (.cells (na n) 37)).grownBy w' none→(loadCellsFrom ⟨w.heap.size,0,none⟩ 0 mm #[]).run Tryz.prog w' = .ok (na n) w'):=qh fun w' h=>hld _ _ _ (range_grown (range_of (heap_alloc_new _ _)) h (by simp))
  have HG0:Hid ((w.alloc (.cells (na n) 37)).grownBy (w.alloc (.cells (na n) 37)) none):=qh (grown_refl _ _)
  clear hld
  go_enter Tryz.func95,Tryz.ntmps95
  go_wp2_with (go_at_call 130;((with_reducible refine (HK.out _).mono ?_);rintro e w1 ⟨rfl,rfl⟩))
  rw [HTT.out]
  refine wp_region_held_drew (S:=fun w'=>(loadCellsFrom ⟨w.heap.size,0,none⟩ 0 mm #[]).run Tryz.prog w' = .ok (na n) w'∧(w.alloc (.cells (na n) 37)).grownBy w' none) (by kernel_rfl) ⟨HL.out _ (grown_drew HG0.out),grown_drew HG0.out⟩ (fun hHeld=>?_)
  refine tl 0 ?_ rfl ?_ ?_ (tl 1 ?_ rfl ?_ ?_ (tl 2 ?_ rfl ?_ ?_ ?_))
  iterate 3 (rotate_left;(next=>(try simp only [lay]);((intro w0 hSw;(try dsimp only at hSw);obtain ⟨hs1,hs2⟩:=hSw;go_simp);try (with_reducible rfl)));next=>rfl)
  try simp only [lay]
  refine wpAnyH_ready (rs:=[3]) (by kernel_rfl) (by simp) ?_
  refine ac rfl (fun K hK=>?_) ?_
  · go_simp
    (with_reducible refine (HU.out _).mono ?_);rintro e w9 ⟨rfl,hg9⟩
    have hh:=grown_trans (grown_drew HG0.out) hg9
    go_wp2_with fail
    refine hK.out _ _ ⟨HL.out _ hh,hh⟩ (fun hHeld=>?_)
    clear hK K
    try simp only [lay]
    refine tl 4 ?_ rfl ?_ ?_ (tl 5 ?_ rfl ?_ ?_ ?_)
    iterate 2 (rotate_left;(next=>(try simp only [lay]);((intro w0 hSw;(try dsimp only at hSw);obtain ⟨hs1,hs2⟩:=hSw;go_simp);try (with_reducible rfl)));next=>rfl)
    try simp only [lay]
    refine wpAnyH_ready (rs:=[6,7]) (by kernel_rfl) (by simp) ?_
    refine ac rfl (fun K hK=>?_) ?_
    · go_simp
      refine hK.out _ _ (by assumption) (fun hHeld2=>?_)
      clear hK K
      try simp only [lay]
      refine wpAnyH_ready (rs:=[7]) (by kernel_rfl) (by simp) ?_
      refine ac rfl (fun K hK=>?_) ?_
      · go_simp
        refine hK.out _ _ (by assumption) (fun hHeld2=>?_)
        clear hK K
        try simp only [lay]
        refine wpAnyH_ready (rs:=[8]) (by kernel_rfl) (by simp) ?_
        refine ac rfl (fun K hK=>?_) ?_
        · go_simp
          refine hK.out _ _ (by assumption) (fun hHeld2=>?_)
          clear hK K
          try simp only [lay]
          refine wpAnyH_ready (rs:=[9]) (by kernel_rfl) (by simp) ?_
          refine ac rfl (fun K hK=>?_) ?_
          · go_simp
            refine hK.out _ _ (by assumption) (fun hHeld2=>?_)
            clear hK K
            try simp only [lay]
            refine wpAnyH_ready (rs:=[10]) (by kernel_rfl) (by simp) ?_
            refine ac rfl (fun K hK=>?_) ?_
            · go_simp
              refine hK.out _ _ (by assumption) (fun hHeld2=>?_)
              clear hK K
              try simp only [lay]
              refine tl 11 ?_ rfl ?_ ?_ ?_
              (rotate_left;(next=>((intro w0 hSw;(try dsimp only at hSw);obtain ⟨hs1,hs2⟩:=hSw;go_simp);try (with_reducible rfl)));next=>rfl)
              try simp only [lay]
              refine wpAnyH_done (by kernel_rfl) ?_ _
              go_wp2
              go_ret
              exact ⟨rfl,grown_trans HG.out hh⟩
            exact AllReadyH.nil
          exact AllReadyH.nil
        exact AllReadyH.nil
      exact AllReadyH.nil
    refine ac rfl (fun K hK=>?_) ?_
    · go_simp
      refine hK.out _ _ (by assumption) (fun hHeld2=>?_)
      clear hK K
      try simp only [lay]
      refine wpAnyH_ready (rs:=[6]) (by kernel_rfl) (by simp) ?_
      refine ac rfl (fun K hK=>?_) ?_
      · go_simp
        refine hK.out _ _ (by assumption) (fun hHeld2=>?_)
        clear hK K
        try simp only [lay]
        refine wpAnyH_ready (rs:=[8]) (by kernel_rfl) (by simp) ?_
        refine ac rfl (fun K hK=>?_) ?_
        · go_simp
          refine hK.out _ _ (by assumption) (fun hHeld2=>?_)
          clear hK K
          try simp only [lay]
          refine wpAnyH_ready (rs:=[9]) (by kernel_rfl) (by simp) ?_
          refine ac rfl (fun K hK=>?_) ?_
          · go_simp
            refine hK.out _ _ (by assumption) (fun hHeld2=>?_)
            clear hK K
            try simp only [lay]
            refine wpAnyH_ready (rs:=[10]) (by kernel_rfl) (by simp) ?_
            refine ac rfl (fun K hK=>?_) ?_
            · go_simp
              refine hK.out _ _ (by assumption) (fun hHeld2=>?_)
              clear hK K
              try simp only [lay]
              refine tl 11 ?_ rfl ?_ ?_ ?_
              (rotate_left;(next=>((intro w0 hSw;(try dsimp only at hSw);obtain ⟨hs1,hs2⟩:=hSw;go_simp);try (with_reducible rfl)));next=>rfl)
              try simp only [lay]
              refine wpAnyH_done (by kernel_rfl) ?_ _
              go_wp2
              go_ret
              exact ⟨rfl,grown_trans HG.out hh⟩
            exact AllReadyH.nil
          exact AllReadyH.nil
        exact AllReadyH.nil
      exact AllReadyH.nil
    exact AllReadyH.nil
  exact AllReadyH.nil
theorem may_core (h:n=usd (uses n.k) n) (h3:¬ (0 ≤ coreOf (uses n.k) n∧coreOf (uses n.k) n < 16)):Calls Tryz.prog 95 #[.agg (na n)] w fun e w'=>e = .returned (.int .i64 2)∧w.grownBy w' none:=by
  have HK:=qh (isKind_any n.k)
  rw [decide_eq_true (show 1 ≤ n.k∧n.k ≤ 11 by omega)] at HK
  have hg:=grown_alloc (grown_refl w none) (.cells (na n) 37)
  have ct:=hT.grown hg m (by omega)
  rw [kinds_uses m h1 h2,← hm] at ct
  have HU:=qh (used_any (uses n.k) (uses7 _) n)
  have HC:=qh (coreOf_any (uses n.k) (uses7 _) n)
  have HD:=qh (isCore_any (coreOf (uses n.k) n))
  have c0:=box w n 0 _ rfl
  have c3:=box w n 3 _ rfl
  have hq:∀ w,(binOp .neq 37 (.agg (na n)) (.agg (na n))).run Tryz.prog w = .ok (.bool false) w:=fun w=>by rw [q31n,decide_eq_true rfl];rfl
  rw [← h] at HU
  rw [decide_eq_false h3] at HD
  clear h h3
  generalize coreOf (uses n.k) n=x at *
  generalize uses n.k=u at *
  rw [hm] at c0 HK
  have HG:=qh hg
  obtain ⟨hb1,hb2⟩:=hb
  clear hT hm hg
  obtain ⟨t,mm,HTT,hagg,hsize,hld⟩:=named
  have HL:Hid (∀ w',(w.alloc (.cells (na n) 37)).grownBy w' none→(loadCellsFrom ⟨w.heap.size,0,none⟩ 0 mm #[]).run Tryz.prog w' = .ok (na n) w'):=qh fun w' h=>hld _ _ _ (range_grown (range_of (heap_alloc_new _ _)) h (by simp))
  have HG0:Hid ((w.alloc (.cells (na n) 37)).grownBy (w.alloc (.cells (na n) 37)) none):=qh (grown_refl _ _)
  clear hld
  go_enter Tryz.func95,Tryz.ntmps95
  go_wp2_with (go_at_call 130;((with_reducible refine (HK.out _).mono ?_);rintro e w1 ⟨rfl,rfl⟩))
  rw [HTT.out]
  first
  | (go_region_held3 (fun w'=>(loadCellsFrom ⟨w.heap.size,0,none⟩ 0 mm #[]).run Tryz.prog w' = .ok (na n) w'∧(w.alloc (.cells (na n) 37)).grownBy w' none) (first | exact ⟨HL.out _ HG0.out,HG0.out⟩ | exact ⟨HL.out _ (grown_drew HG0.out),grown_drew HG0.out⟩ | assumption | exact keep2 HL (by assumption) (by assumption) | exact keep2 HL (by assumption) (grown_drew (grown_refl _ _))) (first
      | (go_at_call 131;((refine (HU.out _).mono ?_);rintro e w9 ⟨rfl,hg9⟩))
      | (go_at_call 133;((refine (HC.out _).mono ?_);rintro e w10 ⟨rfl,hg10⟩))
      | (go_at_call 132;((refine (HD.out _).mono ?_);rintro e w11 ⟨rfl,rfl⟩))))
  | fail
  all_goals (go_wp2;go_ret;exact ⟨rfl,grown_trans HG.out (And.right (by assumption))⟩)
theorem may_plain (h:n=usd (uses n.k) n) (h3:0 ≤ coreOf (uses n.k) n∧coreOf (uses n.k) n < 16) (h4:(!(bits .and .u8 (uses n.k) 4 == 0))=false):Calls Tryz.prog 95 #[.agg (na n)] w fun e w'=>e = .returned (.int .i64 0)∧w.grownBy w' none:=by
  have HK:=qh (isKind_any n.k)
  rw [decide_eq_true (show 1 ≤ n.k∧n.k ≤ 11 by omega)] at HK
  have hg:=grown_alloc (grown_refl w none) (.cells (na n) 37)
  have ct:=hT.grown hg m (by omega)
  rw [kinds_uses m h1 h2,← hm] at ct
  have HU:=qh (used_any (uses n.k) (uses7 _) n)
  have HC:=qh (coreOf_any (uses n.k) (uses7 _) n)
  have HD:=qh (isCore_any (coreOf (uses n.k) n))
  have c0:=box w n 0 _ rfl
  have c3:=box w n 3 _ rfl
  have hq:∀ w,(binOp .neq 37 (.agg (na n)) (.agg (na n))).run Tryz.prog w = .ok (.bool false) w:=fun w=>by rw [q31n,decide_eq_true rfl];rfl
  have H4:=qh (inc (uses n.k) 4 _ h4)
  rw [← h] at HU
  rw [decide_eq_true h3] at HD
  clear h h3 h4
  generalize coreOf (uses n.k) n=x at *
  generalize uses n.k=u at *
  rw [hm] at c0 HK
  have HG:=qh hg
  obtain ⟨hb1,hb2⟩:=hb
  clear hT hm hg
  obtain ⟨t,mm,HTT,hagg,hsize,hld⟩:=named
  have HL:Hid (∀ w',(w.alloc (.cells (na n) 37)).grownBy w' none→(loadCellsFrom ⟨w.heap.size,0,none⟩ 0 mm #[]).run Tryz.prog w' = .ok (na n) w'):=qh fun w' h=>hld _ _ _ (range_grown (range_of (heap_alloc_new _ _)) h (by simp))
  have HG0:Hid ((w.alloc (.cells (na n) 37)).grownBy (w.alloc (.cells (na n) 37)) none):=qh (grown_refl _ _)
  clear hld
  go_enter Tryz.func95,Tryz.ntmps95
  go_wp2_with (go_at_call 130;((with_reducible refine (HK.out _).mono ?_);rintro e w1 ⟨rfl,rfl⟩))
  rw [HTT.out]
  first
  | (go_region_held3 (fun w'=>(loadCellsFrom ⟨w.heap.size,0,none⟩ 0 mm #[]).run Tryz.prog w' = .ok (na n) w'∧(w.alloc (.cells (na n) 37)).grownBy w' none) (first | exact ⟨HL.out _ HG0.out,HG0.out⟩ | exact ⟨HL.out _ (grown_drew HG0.out),grown_drew HG0.out⟩ | assumption | exact keep2 HL (by assumption) (by assumption) | exact keep2 HL (by assumption) (grown_drew (grown_refl _ _))) (first
      | (go_at_call 131;((refine (HU.out _).mono ?_);rintro e w9 ⟨rfl,hg9⟩))
      | (go_at_call 133;((refine (HC.out _).mono ?_);rintro e w10 ⟨rfl,hg10⟩))
      | (go_at_call 132;((refine (HD.out _).mono ?_);rintro e w11 ⟨rfl,rfl⟩))))
  | fail
  all_goals
    (have HF:=qh (And.right (by assumption:_∧(w.alloc (.cells (na n) 37)).grownBy _ none))
     go_wp2_with (go_at_call 134;((with_reducible refine (H4.out _).mono ?_);rintro e w12 ⟨rfl,rfl⟩))
     go_ret
     exact ⟨rfl,grown_trans HG.out HF.out⟩)
theorem may_state (h:n=usd (uses n.k) n) (h3:0 ≤ coreOf (uses n.k) n∧coreOf (uses n.k) n < 16) (h4:(!(bits .and .u8 (uses n.k) 4 == 0))=true):Calls Tryz.prog 95 #[.agg (na n)] w fun e w'=>e = .returned (.int .i64 (yes (1 ≤ n.s∧n.s ≤ 3)))∧w.grownBy w' none:=by
  have HK:=qh (isKind_any n.k)
  rw [decide_eq_true (show 1 ≤ n.k∧n.k ≤ 11 by omega)] at HK
  have hg:=grown_alloc (grown_refl w none) (.cells (na n) 37)
  have ct:=hT.grown hg m (by omega)
  rw [kinds_uses m h1 h2,← hm] at ct
  have HU:=qh (used_any (uses n.k) (uses7 _) n)
  have HC:=qh (coreOf_any (uses n.k) (uses7 _) n)
  have HD:=qh (isCore_any (coreOf (uses n.k) n))
  have c0:=box w n 0 _ rfl
  have c3:=box w n 3 _ rfl
  have hq:∀ w,(binOp .neq 37 (.agg (na n)) (.agg (na n))).run Tryz.prog w = .ok (.bool false) w:=fun w=>by rw [q31n,decide_eq_true rfl];rfl
  have H4:=qh (inc (uses n.k) 4 _ h4)
  have HS:=qh (isState_any n.s)
  have c5:=box w n 5 _ rfl
  rw [← h] at HU
  rw [decide_eq_true h3] at HD
  clear h h3 h4
  generalize coreOf (uses n.k) n=x at *
  generalize uses n.k=u at *
  by_cases hs:1 ≤ n.s∧n.s ≤ 3
  · rw [yes_of hs]
    rw [decide_eq_true hs] at HS
    clear hs
    rw [hm] at c0 HK
    have HG:=qh hg
    obtain ⟨hb1,hb2⟩:=hb
    clear hT hm hg
    obtain ⟨t,mm,HTT,hagg,hsize,hld⟩:=named
    have HL:Hid (∀ w',(w.alloc (.cells (na n) 37)).grownBy w' none→(loadCellsFrom ⟨w.heap.size,0,none⟩ 0 mm #[]).run Tryz.prog w' = .ok (na n) w'):=qh fun w' h=>hld _ _ _ (range_grown (range_of (heap_alloc_new _ _)) h (by simp))
    have HG0:Hid ((w.alloc (.cells (na n) 37)).grownBy (w.alloc (.cells (na n) 37)) none):=qh (grown_refl _ _)
    clear hld
    go_enter Tryz.func95,Tryz.ntmps95
    go_wp2_with (go_at_call 130;((with_reducible refine (HK.out _).mono ?_);rintro e w1 ⟨rfl,rfl⟩))
    rw [HTT.out]
    first
    | (go_region_held3 (fun w'=>(loadCellsFrom ⟨w.heap.size,0,none⟩ 0 mm #[]).run Tryz.prog w' = .ok (na n) w'∧(w.alloc (.cells (na n) 37)).grownBy w' none) (first | exact ⟨HL.out _ HG0.out,HG0.out⟩ | exact ⟨HL.out _ (grown_drew HG0.out),grown_drew HG0.out⟩ | assumption | exact keep2 HL (by assumption) (by assumption) | exact keep2 HL (by assumption) (grown_drew (grown_refl _ _))) (first
        | (go_at_call 131;((refine (HU.out _).mono ?_);rintro e w9 ⟨rfl,hg9⟩))
        | (go_at_call 133;((refine (HC.out _).mono ?_);rintro e w10 ⟨rfl,hg10⟩))
        | (go_at_call 132;((refine (HD.out _).mono ?_);rintro e w11 ⟨rfl,rfl⟩))))
    | fail
    all_goals
      (have HF:=qh (And.right (by assumption:_∧(w.alloc (.cells (na n) 37)).grownBy _ none))
       have c5:=HF.out.cell c5 (by simp)
       go_wp2_with (first | (go_at_call 134;((with_reducible refine (H4.out _).mono ?_);rintro e w12 ⟨rfl,rfl⟩)) | (go_at_call 135;((with_reducible refine (HS.out _).mono ?_);rintro e w12 ⟨rfl,rfl⟩)))
       go_ret
       exact ⟨rfl,grown_trans HG.out HF.out⟩)
  · rw [yes_not hs]
    rw [decide_eq_false hs] at HS
    clear hs
    rw [hm] at c0 HK
    have HG:=qh hg
    obtain ⟨hb1,hb2⟩:=hb
    clear hT hm hg
    obtain ⟨t,mm,HTT,hagg,hsize,hld⟩:=named
    have HL:Hid (∀ w',(w.alloc (.cells (na n) 37)).grownBy w' none→(loadCellsFrom ⟨w.heap.size,0,none⟩ 0 mm #[]).run Tryz.prog w' = .ok (na n) w'):=qh fun w' h=>hld _ _ _ (range_grown (range_of (heap_alloc_new _ _)) h (by simp))
    have HG0:Hid ((w.alloc (.cells (na n) 37)).grownBy (w.alloc (.cells (na n) 37)) none):=qh (grown_refl _ _)
    clear hld
    go_enter Tryz.func95,Tryz.ntmps95
    go_wp2_with (go_at_call 130;((with_reducible refine (HK.out _).mono ?_);rintro e w1 ⟨rfl,rfl⟩))
    rw [HTT.out]
    first
    | (go_region_held3 (fun w'=>(loadCellsFrom ⟨w.heap.size,0,none⟩ 0 mm #[]).run Tryz.prog w' = .ok (na n) w'∧(w.alloc (.cells (na n) 37)).grownBy w' none) (first | exact ⟨HL.out _ HG0.out,HG0.out⟩ | exact ⟨HL.out _ (grown_drew HG0.out),grown_drew HG0.out⟩ | assumption | exact keep2 HL (by assumption) (by assumption) | exact keep2 HL (by assumption) (grown_drew (grown_refl _ _))) (first
        | (go_at_call 131;((refine (HU.out _).mono ?_);rintro e w9 ⟨rfl,hg9⟩))
        | (go_at_call 133;((refine (HC.out _).mono ?_);rintro e w10 ⟨rfl,hg10⟩))
        | (go_at_call 132;((refine (HD.out _).mono ?_);rintro e w11 ⟨rfl,rfl⟩))))
    | fail
    all_goals
      (have HF:=qh (And.right (by assumption:_∧(w.alloc (.cells (na n) 37)).grownBy _ none))
       have c5:=HF.out.cell c5 (by simp)
       go_wp2_with (first | (go_at_call 134;((with_reducible refine (H4.out _).mono ?_);rintro e w12 ⟨rfl,rfl⟩)) | (go_at_call 135;((with_reducible refine (HS.out _).mono ?_);rintro e w12 ⟨rfl,rfl⟩)))
       go_ret
       exact ⟨rfl,grown_trans HG.out HF.out⟩)
end
theorem inc4 (u:Int) (h:us7 u):(!(bits .and .u8 u 4 == 0))=decide (u=20):=by
  rcases h with rfl | rfl | rfl | rfl | rfl | rfl | rfl <;> decide +kernel
theorem nmay_any (n:Nt) (w:World) (hT:TabK w):Calls Tryz.prog 95 #[.agg (na n)] w fun e w'=>e = .returned (.int .i64 (yes n.ok))∧w.grownBy w' none:=by
  by_cases hk:1 ≤ n.k∧n.k ≤ 11
  · by_cases hb:0 ≤ n.b∧n.b < 256
    · obtain ⟨m,hm⟩:∃ m:Nat,n.k=(m:Int):=⟨n.k.toNat,by omega⟩
      by_cases hu:n=usd (uses n.k) n
      · by_cases hc:0 ≤ coreOf (uses n.k) n∧coreOf (uses n.k) n < 16
        · have h4:=inc4 _ (uses7 n.k)
          by_cases h20:uses n.k=20
          · have:yes n.ok=yes (1 ≤ n.s∧n.s ≤ 3):=by
              by_cases hs:1 ≤ n.s∧n.s ≤ 3
              · rw [yes_of hs,yes_of (b:=n.ok) ⟨hk,hb,hu,hc,fun _=>hs⟩]
              · rw [yes_not hs,yes_not (b:=n.ok) (fun h=>hs (h.2.2.2.2 h20))]
            rw [this]
            exact may_state n w hT m hm (by omega) (by omega) hb hu hc (by rw [h4,decide_eq_true h20])
          · rw [yes_of (b:=n.ok) ⟨hk,hb,hu,hc,fun h=>absurd h h20⟩]
            exact may_plain n w hT m hm (by omega) (by omega) hb hu hc (by rw [h4,decide_eq_false h20])
        · rw [yes_not (b:=n.ok) (fun h=>hc h.2.2.2.1)]
          exact may_core n w hT m hm (by omega) (by omega) hb hu hc
      · rw [yes_not (b:=n.ok) (fun h=>hu h.2.2.1)]
        exact may_used n w hT m hm (by omega) (by omega) hb hu
    · rw [yes_not (b:=n.ok) (fun h=>hb h.2.1)]
      exact may_block n w hk hb
  · rw [yes_not (b:=n.ok) (fun h=>hk h.1)]
    exact may_kind n w hk
end Go.Proofs.YtcoimipgilkmbaaGreatDoor.tt
namespace Go.Proofs.YtcoimipgilkmbaaGreatDoor.tt
set_option linter.unusedVariables false
set_option linter.unusedSimpArgs false
set_option maxRecDepth 1000000
set_option maxHeartbeats 16000000
open Go Go.ChangeShapes Go.WideShapes Go.ChangeAt Go.RowKit
structure Nt.Rule (n:Nt) (T S:Bool):Prop where
  at_:(if T then n.t else n.f)=-1
  core:0 ≤ (if T then n.f else n.t)∧(if T then n.f else n.t) < 16
  st:S=false→n.st=0
  s6:n.k=6→1 ≤ n.s∧n.s ≤ 3
  s0:n.k ≠ 6→n.s=0
  q:n.k ≠ 3→n.q=false
  h36:n.k=3 ∨ n.k=6→n.h=true
  h369:n.h=true→n.k=3 ∨ n.k=6 ∨ n.k=9
  d:n.h=false→n.d=zd
theorem nt_eq (x y:Nt):(x=y) ↔ (x.k=y.k∧x.f=y.f∧x.t=y.t∧x.b=y.b∧x.st=y.st∧x.s=y.s∧x.h=y.h∧x.q=y.q∧x.d=y.d):=
  ⟨fun h=>by subst h;simp,fun ⟨h1,h2,h3,h4,h5,h6,h7,h8,h9⟩=>Nt.ext h1 h2 h3 h4 h5 h6 h7 h8 h9⟩
theorem rule_ok (n:Nt) (hk:1 ≤ n.k∧n.k ≤ 11) (hb:0 ≤ n.b∧n.b < 256):n.ok ↔ n.Rule (tH n.k) (sT n.k):=by
  have hR:n.Rule (tH n.k) (sT n.k) ↔ ((if tH n.k then n.t else n.f)=-1∧(0 ≤ (if tH n.k then n.f else n.t)∧(if tH n.k then n.f else n.t) < 16)∧(sT n.k=false→n.st=0)∧(n.k=6→1 ≤ n.s∧n.s ≤ 3)∧(n.k ≠ 6→n.s=0)∧(n.k ≠ 3→n.q=false)∧(n.k=3 ∨ n.k=6→n.h=true)∧(n.h=true→n.k=3 ∨ n.k=6 ∨ n.k=9)∧(n.h=false→n.d=zd)):=
    ⟨fun ⟨a,b,c,d,e,f,g,h,i⟩=>⟨a,b,c,d,e,f,g,h,i⟩,fun ⟨a,b,c,d,e,f,g,h,i⟩=>⟨a,b,c,d,e,f,g,h,i⟩⟩
  rw [hR]
  clear hR
  unfold Nt.ok
  obtain ⟨k,f,t,b,st,s,h,q,d,hd⟩:=n
  simp only at hk hb ⊢
  rcases kinds11 hk with rfl | rfl | rfl | rfl | rfl | rfl | rfl | rfl | rfl | rfl | rfl
  all_goals
    cases h <;> cases q <;> simp [nt_eq,usd,uses,coreOf,tH,sT,bare,hb] <;> (try omega)
  all_goals (constructor <;> (intro h;simp_all))
end Go.Proofs.YtcoimipgilkmbaaGreatDoor.tt
